package rod

// every reports whether each element of a list is as it is asked to be.
func every[T any](list []T, is func(T) bool) bool {
	for _, x := range list {
		if !is(x) {
			return false
		}
	}
	return true
}

// hasTwice reports whether a list has an element twice.
func hasTwice[T comparable](list []T) bool {
	seen := map[T]bool{}
	for _, x := range list {
		if seen[x] {
			return true
		}
		seen[x] = true
	}
	return false
}

// withOneMore returns a list with one element more, the last one, in memory of its own.
func withOneMore[T any](list []T, last T) []T {
	more := make([]T, len(list)+1)
	copy(more, list)
	more[len(list)] = last
	return more
}

// within reports whether a number is from lo to hi.
func within(n, lo, hi int) bool { return lo <= n && n <= hi }

// greatest returns the greatest of one or more heats.
func greatest(first int, others ...int) int {
	for _, n := range others {
		if n > first {
			first = n
		}
	}
	return first
}

// lists returns the lists of so many of the numbers below n, each in increasing order, all in lexicographic order.
func lists(n, size int) [][]int {
	var all [][]int
	var choose func(list []int, from int)
	choose = func(list []int, from int) {
		if len(list) == size {
			all = append(all, list)
			return
		}
		for i := from; i < n; i++ {
			choose(withOneMore(list, i), i+1)
		}
	}
	choose(nil, 0)
	return all
}
