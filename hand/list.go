package hand

import "staddle/api"

// every reports whether each element of a list is as it is asked to be.
func every[T any](list []T, is func(T) bool) bool {
	for _, x := range list {
		if !is(x) {
			return false
		}
	}
	return true
}

// those returns the elements of a list that are as they are asked to be, in memory of their own.
func those[T any](list []T, are func(T) bool) []T {
	var some []T
	for _, x := range list {
		if are(x) {
			some = append(some, x)
		}
	}
	return some
}

// withOneMore returns a list with one element more, which comes after so many of the others, in memory of its own.
func withOneMore[T any](list []T, after int, x T) []T {
	more := make([]T, len(list)+1)
	copy(more, list[:after])
	more[after] = x
	copy(more[after+1:], list[after:])
	return more
}

// within reports whether a number is from lo to hi.
func within(n, lo, hi int) bool { return lo <= n && n <= hi }

// greatest returns the greatest of one or more numbers.
func greatest(first int, others ...int) int {
	for _, n := range others {
		if n > first {
			first = n
		}
	}
	return first
}

// meet returns the numbers that are in both spans.
func meet(a, b api.Span) api.Span {
	return api.Span{Lo: greatest(a.Lo, b.Lo), Hi: min(a.Hi, b.Hi)}
}

// best returns, of all lists of increasing numbers below n any two of which go together, the one that is worth the most; of
// several such lists the first one in lexicographic order.
func best(n int, together func(a, b int) bool, worth func(list []int) int) []int {
	var found []int
	most := worth(nil)
	var choose func(list []int, from int)
	choose = func(list []int, from int) {
		for next := from; next < n; next++ {
			if !every(list, func(k int) bool { return together(k, next) }) {
				continue
			}
			more := withOneMore(list, len(list), next)
			if m := worth(more); m > most {
				found, most = more, m
			}
			choose(more, next+1)
		}
	}
	choose(nil, 0)
	return found
}
