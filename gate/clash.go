package gate

import (
	"slices"

	"staddle/api"
)

// agree reports whether the handfuls that are to count do.
func (c cartAtGate) agree(counts func(handful int) bool) bool {
	c.counts = counts
	return !c.bounds().empty()
}

// listed returns what counts if just the handfuls of a list do.
func listed(handfuls []int) func(int) bool {
	return func(handful int) bool { return slices.Contains(handfuls, handful) }
}

// hasTwice reports whether a list has an element twice.
func hasTwice(list []int) bool {
	seen := map[int]bool{}
	for _, n := range list {
		if seen[n] {
			return true
		}
		seen[n] = true
	}
	return false
}

// choices returns the lists of so many of the numbers below n, each in increasing order, all in lexicographic order.
func choices(n, size int) [][]int {
	var all [][]int
	var choose func(list []int, from int)
	choose = func(list []int, from int) {
		if len(list) == size {
			all = append(all, list)
			return
		}
		for i := from; i < n; i++ {
			choose(append(slices.Clone(list), i), i+1)
		}
	}
	choose(nil, 0)
	return all
}

// clash returns the first list of as few handfuls as can be that do not agree, or no list if all agree.
func (c cartAtGate) clash() []int {
	var first []int
search:
	for size := 1; size <= len(c.Handfuls); size++ {
		for _, list := range choices(len(c.Handfuls), size) {
			if !c.agree(listed(list)) {
				first = list
				break search
			}
		}
	}
	return first
}

// Agree reports whether listed handfuls do.
func Agree(g Gate, c Cart, handfuls []int) (bool, api.Errno) {
	at, e := arrive(g, c)
	switch {
	case e != api.OK:
		return false, e
	case !every(handfuls, at.hasHandful):
		return false, api.ErrNot
	case hasTwice(handfuls):
		return false, api.ErrTwice
	}
	return at.agree(listed(handfuls)), api.OK
}

// Clash returns as few handfuls as can be that do not agree.
func Clash(g Gate, c Cart) ([]int, api.Errno) {
	at, e := arrive(g, c)
	if e != api.OK {
		return nil, e
	}
	list := at.clash()
	if len(list) == 0 {
		return nil, api.ErrNone
	}
	return list, api.OK
}

// Topped reports whether the handfuls of each spot agree, but not all handfuls.
func Topped(g Gate, c Cart) (bool, api.Errno) {
	at, e := arrive(g, c)
	if e != api.OK {
		return false, e
	}
	for spot := range spots {
		if !at.agree(func(handful int) bool { return at.Handfuls[handful].Spot == spot }) {
			return false, api.OK
		}
	}
	return !at.agree(at.hasHandful), api.OK
}
