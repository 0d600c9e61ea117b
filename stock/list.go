package stock

import (
	"slices"

	"staddle/api"
)

// every reports whether each element of a list is as it is asked to be.
func every[T any](list []T, is func(T) bool) bool {
	for _, x := range list {
		if !is(x) {
			return false
		}
	}
	return true
}

// withOneMore returns a list with one element more, the last one, in memory of its own.
func withOneMore[T any](list []T, last T) []T {
	more := make([]T, len(list)+1)
	copy(more, list)
	more[len(list)] = last
	return more
}

// within reports whether a number is from lo to hi.
func within(n, lo, hi int) bool { return lo <= n && n <= hi }

// least returns the least of one or more amounts.
func least(first int, others ...int) int {
	for _, n := range others {
		if n < first {
			first = n
		}
	}
	return first
}

// meet returns the numbers that are in both spans; if there are none, its Lo is greater than its Hi.
func meet(a, b api.Span) api.Span {
	return api.Span{Lo: max(a.Lo, b.Lo), Hi: least(a.Hi, b.Hi)}
}

// isIn reports whether a number is in a span.
func isIn(n int, s api.Span) bool { return within(n, s.Lo, s.Hi) }

// isEmpty reports whether a span has no number.
func isEmpty(s api.Span) bool { return s.Lo > s.Hi }

// lists returns the lists of so many of the numbers below n, each in increasing order, all in lexicographic order.
func lists(n, size int) [][]int {
	var all [][]int
	var choose func(list []int, from int)
	choose = func(list []int, from int) {
		if len(list) == size {
			all = append(all, list)
			return
		}
		for i := from; i < n; i++ {
			choose(append(slices.Clone(list), i), i+1)
		}
	}
	choose(nil, 0)
	return all
}
