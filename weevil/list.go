package weevil

// every reports whether each element of a list is as it is asked to be.
func every[T any](list []T, is func(T) bool) bool {
	for _, x := range list {
		if !is(x) {
			return false
		}
	}
	return true
}

// withOneMore returns a list with one element more, the last one, in memory of its own.
func withOneMore[T any](list []T, last T) []T {
	more := make([]T, len(list)+1)
	copy(more, list)
	more[len(list)] = last
	return more
}

// within reports whether a number is from lo to hi.
func within(n, lo, hi int) bool { return lo <= n && n <= hi }

// isIncreasing reports whether each number of a list is greater than the one before it.
func isIncreasing(list []int) bool {
	for i := range list {
		if i > 0 && list[i-1] >= list[i] {
			return false
		}
	}
	return true
}

// least returns the least of one or more numbers.
func least(first int, others ...int) int {
	for _, n := range others {
		if n < first {
			first = n
		}
	}
	return first
}
