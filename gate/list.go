package gate

// every reports whether each element of a list is as it is asked to be.
func every[T any](list []T, is func(T) bool) bool {
	for _, x := range list {
		if !is(x) {
			return false
		}
	}
	return true
}

// within reports whether a number is from lo to hi.
func within(n, lo, hi int) bool { return lo <= n && n <= hi }

// sum adds up the numbers of all kinds.
func sum(all [4]int) int {
	total := 0
	for _, n := range all {
		total += n
	}
	return total
}

// greatest returns the greatest of one or more numbers.
func greatest(first int, others ...int) int {
	for _, n := range others {
		if n > first {
			first = n
		}
	}
	return first
}
