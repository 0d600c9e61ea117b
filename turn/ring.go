package turn

import (
	"slices"

	"staddle/api"
)

// isWanted reports whether a lot should be in a bin.
func (b Barn) isWanted(bin int) bool {
	return slices.ContainsFunc(b.Lots, func(l Lot) bool { return l.To == bin })
}

// mustTurn reports whether a lot must be turned.
func (b Barn) mustTurn(lot int) bool {
	l := b.Lots[lot]
	if l.To == Anywhere {
		return b.isWanted(l.In)
	}
	return l.To != l.In
}

// stands reports whether a lot is in the bin in which another one should be.
func (b Barn) stands(lot, other int) bool { return b.Lots[lot].In == b.Lots[other].To }

// isRing reports whether lots, which are different, are a ring.
func (b Barn) isRing(lots []int) bool {
	for i, lot := range lots {
		if !b.stands(lots[(i+1)%len(lots)], lot) {
			return false
		}
	}
	return len(lots) >= 2
}

// ring returns the lots from one on, each of which should be where the next one is, until one should be in a free bin, or
// Anywhere, or where the first one is. No lots should be in the same bin, so that no other lot comes twice.
func (b Barn) ring(first int) []int {
	lots := []int{first}
	for {
		last := lots[len(lots)-1]
		next := slices.IndexFunc(b.Lots, func(l Lot) bool { return l.In == b.Lots[last].To })
		if next < 0 || next == first {
			return lots
		}
		lots = append(lots, next)
	}
}

// rings returns all rings, each with its least lot first, in increasing order of these.
func (b Barn) rings() [][]int {
	var rings [][]int
	for lot := range len(b.Lots) {
		ring := b.ring(lot)
		if b.isRing(ring) && lot == least(lot, ring...) {
			rings = append(rings, ring)
		}
	}
	return rings
}

// Must returns the lots that must be turned.
func Must(b Barn) ([]int, api.Errno) {
	if e := Check(b); e != api.OK {
		return nil, e
	}
	return b.lotsThat(b.mustTurn), api.OK
}

// Rings returns all rings.
func Rings(b Barn) ([][]int, api.Errno) {
	if e := Check(b); e != api.OK {
		return nil, e
	}
	return b.rings(), api.OK
}

// Shows returns the least number of turnings that rings show.
func Shows(b Barn, rings [][]int) (int, api.Errno) {
	if e := Check(b); e != api.OK {
		return 0, e
	}
	if e := b.errorOfRings(rings); e != api.OK {
		return 0, e
	}
	return len(b.lotsThat(b.mustTurn)) + len(rings), api.OK
}
