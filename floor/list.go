package floor

// every reports whether each element of a list is as it is asked to be.
func every[T any](list []T, is func(T) bool) bool {
	for _, x := range list {
		if !is(x) {
			return false
		}
	}
	return true
}

// withOneMore returns a list with one element more, the last one, in memory of its own.
func withOneMore[T any](list []T, last T) []T {
	more := make([]T, len(list)+1)
	copy(more, list)
	more[len(list)] = last
	return more
}

// within reports whether a number is from lo to hi.
func within(n, lo, hi int) bool { return lo <= n && n <= hi }

// sum returns the numbers of a list, added.
func sum(list []int) int {
	n := 0
	for _, x := range list {
		n += x
	}
	return n
}

// least returns the least of one or more margins.
func least(first int, others ...int) int {
	for _, n := range others {
		if n < first {
			first = n
		}
	}
	return first
}
