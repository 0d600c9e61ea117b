package heat

import "staddle/api"

// every reports whether each element of a list is as it is asked to be.
func every[T any](list []T, is func(T) bool) bool {
	for _, x := range list {
		if !is(x) {
			return false
		}
	}
	return true
}

// within reports whether a number is from lo to hi.
func within(n, lo, hi int) bool { return lo <= n && n <= hi }

// isIncreasing reports whether each number of a list is greater than the one before it.
func isIncreasing(list []int) bool {
	for i := 1; i < len(list); i++ {
		if list[i] <= list[i-1] {
			return false
		}
	}
	return true
}

// greatest returns the greatest of one or more numbers.
func greatest(first int, others ...int) int {
	for _, n := range others {
		if n > first {
			first = n
		}
	}
	return first
}

// meet returns the numbers that are in both spans; if there are none, its Lo is greater than its Hi.
func meet(a, b api.Span) api.Span {
	return api.Span{Lo: greatest(a.Lo, b.Lo), Hi: min(a.Hi, b.Hi)}
}

// isEmpty reports whether a span has no number.
func isEmpty(s api.Span) bool { return s.Lo > s.Hi }
