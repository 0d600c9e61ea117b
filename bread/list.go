package bread

import "staddle/api"

// every reports whether each element of a list is as it is asked to be.
func every[T any](list []T, is func(T) bool) bool {
	for _, x := range list {
		if !is(x) {
			return false
		}
	}
	return true
}

// firstError returns the error of the first element of a list that has one.
func firstError[T any](list []T, errorOf func(T) api.Errno) api.Errno {
	for _, x := range list {
		if e := errorOf(x); e != api.OK {
			return e
		}
	}
	return api.OK
}

// below returns the numbers from 0 on below n that are as they are asked to be, in increasing order.
func below(n int, are func(int) bool) []int {
	var some []int
	for k := range n {
		if are(k) {
			some = append(some, k)
		}
	}
	return some
}

// within reports whether a number is from lo to hi.
func within(n, lo, hi int) bool { return lo <= n && n <= hi }

// least returns the least of one or more numbers.
func least(first int, others ...int) int {
	for _, n := range others {
		if n < first {
			first = n
		}
	}
	return first
}
