package weevil

import "staddle/api"

// Check returns the error of a house.
func Check(h House) api.Errno {
	switch {
	case !h.hasNumbers():
		return api.ErrMany
	case !every(h.Sights, isInTime):
		return api.ErrRange
	case !every(h.Gaps, h.hasBoth), !every(h.Sights, h.hasSeen):
		return api.ErrNot
	case !every(h.Gaps, isBetween):
		return api.ErrTwice
	}
	return api.OK
}

// hasNumbers reports whether a house has as many things of each kind as are allowed.
func (h House) hasNumbers() bool {
	return within(h.Bins, 1, MaxBins) && len(h.Gaps) <= MaxGaps && len(h.Sights) <= MaxSights
}

func (h House) hasBin(bin int) bool { return within(bin, 0, h.Bins-1) }

func (h House) hasGap(gap int) bool { return within(gap, 0, len(h.Gaps)-1) }

func (h House) hasGaps(gaps []int) bool { return every(gaps, h.hasGap) }

func (h House) hasBoth(g Gap) bool { return h.hasBin(g.A) && h.hasBin(g.B) }

// hasSeen reports whether the bin of a sight is one of the house.
func (h House) hasSeen(s Sight) bool { return h.hasBin(s.Bin) }

func isWeek(n int) bool { return within(n, 0, MaxWeeks) }

func isSpeed(n int) bool { return within(n, 0, MaxGaps) }

func isInTime(s Sight) bool { return isWeek(s.Week) }

func isBetween(g Gap) bool { return g.A != g.B }

// setOf returns the set of a list of bins, or of gaps, or the error of the list.
func setOf(list []int, exists func(n int) bool) (set, api.Errno) {
	if !every(list, exists) {
		return 0, api.ErrNot
	}
	if !haveNoneTwice([][]int{list}) {
		return 0, api.ErrTwice
	}
	return allOf(list), api.OK
}

// errorOfWays returns the error of ways.
func (w houseAtWork) errorOfWays(ways [][]int) api.Errno {
	switch {
	case !every(ways, w.hasGaps):
		return api.ErrNot
	case !haveNoneTwice(ways):
		return api.ErrTwice
	case !every(ways, w.isWay):
		return api.ErrWrong
	}
	return api.OK
}

// errorOfPlan returns the error of a plan.
func (w houseAtWork) errorOfPlan(plan [][]int) api.Errno {
	if len(plan) > MaxWeeks {
		return api.ErrMany
	}
	for _, gaps := range plan {
		switch {
		case !w.hasGaps(gaps):
			return api.ErrNot
		case !isIncreasing(gaps):
			return api.ErrOrder
		case len(gaps) > w.speed:
			return api.ErrFull
		}
	}
	if !haveNoneTwice(plan) {
		return api.ErrTwice
	}
	return api.OK
}

// haveNoneTwice reports whether nothing is in two of several lists of what there is, nor twice in one.
func haveNoneTwice(lists [][]int) bool {
	var all set
	for _, list := range lists {
		for _, n := range list {
			if all.has(n) {
				return false
			}
			all = all.with(n)
		}
	}
	return true
}
