package loan

import "slices"

// every reports whether each element of a list is as it is asked to be.
func every[T any](list []T, is func(T) bool) bool {
	for _, x := range list {
		if !is(x) {
			return false
		}
	}
	return true
}

// each returns a number of each element of a list.
func each[T any](list []T, number func(T) int) []int {
	numbers := make([]int, len(list))
	for i, x := range list {
		numbers[i] = number(x)
	}
	return numbers
}

// withOneMore returns a list with one element more, the last one, in memory of its own.
func withOneMore[T any](list []T, last T) []T {
	more := make([]T, len(list)+1)
	copy(more, list)
	more[len(list)] = last
	return more
}

// below returns the numbers from 0 on below n that are as they are asked to be, in increasing order.
func below(n int, are func(int) bool) []int {
	var some []int
	for k := range n {
		if are(k) {
			some = append(some, k)
		}
	}
	return some
}

// within reports whether a number is from lo to hi.
func within(n, lo, hi int) bool { return lo <= n && n <= hi }

// hasTwice reports whether a number is in a list twice. If there are but few numbers that it can have, one of the first few is,
// however long the list is.
func hasTwice(list []int) bool {
	for i, n := range list {
		if slices.Contains(list[:i], n) {
			return true
		}
	}
	return false
}

// isIncreasing reports whether each number of a list is greater than the one before it.
func isIncreasing(list []int) bool {
	for i := 1; i < len(list); i++ {
		if list[i] <= list[i-1] {
			return false
		}
	}
	return true
}

// least returns the least of one or more numbers.
func least(first int, others ...int) int {
	for _, n := range others {
		if n < first {
			first = n
		}
	}
	return first
}
