package book

// every reports whether each element of a list is as it is asked to be.
func every[T any](list []T, is func(T) bool) bool {
	for _, x := range list {
		if !is(x) {
			return false
		}
	}
	return true
}

// each returns what is made of each element of a list.
func each[T any](list []T, made func(T) T) []T {
	all := make([]T, len(list))
	for i, x := range list {
		all[i] = made(x)
	}
	return all
}

// withOneMore returns a list with one element more, the last one, in memory of its own.
func withOneMore[T any](list []T, last T) []T {
	more := make([]T, len(list)+1)
	copy(more, list)
	more[len(list)] = last
	return more
}

// below returns the numbers from 0 on below n that are as they are asked to be, in increasing order.
func below(n int, are func(int) bool) []int {
	var some []int
	for k := range n {
		if are(k) {
			some = append(some, k)
		}
	}
	return some
}

// both tells of which numbers two functions tell.
func both(one, other func(int) bool) func(int) bool {
	return func(n int) bool { return one(n) && other(n) }
}

// within reports whether a number is from lo to hi.
func within(n, lo, hi int) bool { return lo <= n && n <= hi }

// greatest returns the greatest of one or more numbers.
func greatest(first int, others ...int) int {
	for _, n := range others {
		if n > first {
			first = n
		}
	}
	return first
}
