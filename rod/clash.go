package rod

import (
	"slices"

	"staddle/api"
)

// listed returns what counts if just the rods of a list do.
func listed(rods []int) func(rod int) bool {
	return func(rod int) bool { return slices.Contains(rods, rod) }
}

// clash returns the first list of as few rods as can be that do not agree, or no list if all agree.
func (b Bin) clash() []int {
	var first []int
search:
	for size := range len(b.Rods) + 1 {
		for _, list := range lists(len(b.Rods), size) {
			if !work(b, listed(list)).agree() {
				first = list
				break search
			}
		}
	}
	return first
}

// Agree reports whether listed rods do.
func Agree(b Bin, rods []int) (bool, api.Errno) {
	if e := Check(b); e != api.OK {
		return false, e
	}
	switch {
	case !every(rods, b.hasRod):
		return false, api.ErrNot
	case hasTwice(rods):
		return false, api.ErrTwice
	}
	return work(b, listed(rods)).agree(), api.OK
}

// Clash returns as few rods as can be that do not agree.
func Clash(b Bin) ([]int, api.Errno) {
	if e := Check(b); e != api.OK {
		return nil, e
	}
	list := b.clash()
	if len(list) == 0 {
		return nil, api.ErrNone
	}
	return list, api.OK
}
