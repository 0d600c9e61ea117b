package turn

import "staddle/api"

// Check returns the error of a barn.
func Check(b Barn) api.Errno {
	switch {
	case !within(len(b.Sizes), 1, MaxBins), len(b.Lots) > MaxLots:
		return api.ErrMany
	case !every(b.Sizes, isSize), !every(b.Lots, isInRange):
		return api.ErrRange
	case !every(b.Lots, b.hasBinsOf):
		return api.ErrNot
	case b.sharesBins():
		return api.ErrTwice
	case !every(b.Lots, b.holdsEverywhere):
		return api.ErrFull
	}
	return api.OK
}

func isSize(n int) bool { return within(n, 0, MaxSacks) }

func isInRange(l Lot) bool { return within(l.Sacks, 1, MaxSacks) }

func (b Barn) hasBin(bin int) bool { return within(bin, 0, len(b.Sizes)-1) }

func (b Barn) hasLot(lot int) bool { return within(lot, 0, len(b.Lots)-1) }

// hasBinsOf reports whether there are the bins in which a lot is, and should be.
func (b Barn) hasBinsOf(l Lot) bool { return b.hasBin(l.In) && (l.To == Anywhere || b.hasBin(l.To)) }

// sharesBins reports whether two lots are in the same bin, or should be.
func (b Barn) sharesBins() bool {
	var aims []int
	for _, l := range b.Lots {
		if l.To != Anywhere {
			aims = append(aims, l.To)
		}
	}
	return hasTwice(aims) || hasTwice(each(b.Lots, func(l Lot) int { return l.In }))
}

// holds reports whether a bin holds a lot.
func (b Barn) holds(bin int, l Lot) bool { return b.Sizes[bin] >= l.Sacks }

// holdsEverywhere reports whether the bins hold a lot in which it is, and should be.
func (b Barn) holdsEverywhere(l Lot) bool {
	return b.holds(l.In, l) && (l.To == Anywhere || b.holds(l.To, l))
}

// hasBoth reports whether there are the lot and the bin of a turning.
func (b Barn) hasBoth(t Turning) bool { return b.hasLot(t.Lot) && b.hasBin(t.To) }

// fits reports whether the bin of a turning holds its lot.
func (b Barn) fits(t Turning) bool { return b.holds(t.To, b.Lots[t.Lot]) }

// errorOf returns the error of turnings that are done at once from where the lots are.
func (a barnAtWork) errorOf(p places, round []Turning) api.Errno {
	switch {
	case !every(round, a.hasBoth):
		return api.ErrNot
	case !isIncreasing(each(round, func(t Turning) int { return t.Lot })):
		return api.ErrOrder
	case !every(round, func(t Turning) bool { return a.isFree(p, t.To) }), hasTwice(each(round, func(t Turning) int { return t.To })):
		return api.ErrTwice
	case !every(round, a.fits):
		return api.ErrFull
	case len(round) > a.gangs:
		return api.ErrMany
	}
	return api.OK
}

// errorOfRings returns the error of rings.
func (b Barn) errorOfRings(rings [][]int) api.Errno {
	var all []int
	for _, ring := range rings {
		if !every(ring, b.hasLot) {
			return api.ErrNot
		}
		all = append(all, ring...)
	}
	switch {
	case hasTwice(all):
		return api.ErrTwice
	case !every(rings, b.isRing):
		return api.ErrWrong
	}
	return api.OK
}
