package weevil

import (
	"iter"
	"math/bits"
)

// set is bins, gaps or sights, a bit for each of them.
type set uint

// allBelow returns the set of all numbers from 0 to n-1.
func allBelow(n int) set { return 1<<n - 1 }

// only returns the set of one number.
func only(n int) set { return 1 << n }

// allOf returns the set of the numbers of a list.
func allOf(list []int) set {
	var s set
	for _, n := range list {
		s = s.with(n)
	}
	return s
}

func (s set) has(n int) bool { return s>>n&1 == 1 }

func (s set) with(n int) set { return s | only(n) }

// less returns what is in a set, but not in another one.
func (s set) less(other set) set { return s &^ other }

// meets reports whether something is both in a set and in another one.
func (s set) meets(other set) bool { return s&other != 0 }

func (s set) size() int { return bits.OnesCount(uint(s)) }

// list returns the numbers of a set in increasing order.
func (s set) list() []int {
	var list []int
	for n := range bits.Len(uint(s)) {
		if s.has(n) {
			list = append(list, n)
		}
	}
	return list
}

// parts yields all sets of which all is in a set, the empty one first.
func (s set) parts() iter.Seq[set] {
	return func(yield func(set) bool) {
		for part := range s + 1 {
			if part.less(s) == 0 && !yield(part) {
				return
			}
		}
	}
}

// firstOf returns the first set of so many numbers below n, in lexicographic order of their lists, that is as it is asked to
// be, and whether there is one.
func firstOf(n, size int, is func(s set) bool) (set, bool) {
	var choose func(chosen set, next, left int) (set, bool)
	choose = func(chosen set, next, left int) (set, bool) {
		if left == 0 {
			return chosen, is(chosen)
		}
		for k := next; k < n; k++ {
			if s, ok := choose(chosen.with(k), k+1, left-1); ok {
				return s, true
			}
		}
		return 0, false
	}
	return choose(0, 0, size)
}

// fewestOf returns the first set of as few numbers below n as can be that is as it is asked to be. There must be one: if it is
// no smaller one, it is that of all numbers.
func fewestOf(n int, is func(s set) bool) set {
	for size := range n {
		if s, ok := firstOf(n, size, is); ok {
			return s
		}
	}
	return allBelow(n)
}

// mostOf returns the first set of as many numbers below n as can be that is as it is asked to be. The empty one
// must be.
func mostOf(n int, is func(s set) bool) set {
	for size := n; size > 0; size-- {
		if s, ok := firstOf(n, size, is); ok {
			return s
		}
	}
	return 0
}
