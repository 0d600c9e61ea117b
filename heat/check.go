package heat

import (
	"slices"

	"staddle/api"
)

// Check returns the error of a barn.
func Check(b Barn) api.Errno {
	switch {
	case !within(len(b.Bins), 1, MaxBins):
		return api.ErrMany
	case !within(b.Cool, 0, MaxMark), !within(b.Gangs, 0, MaxGangs), !every(b.Rise[:], isRise), !every(b.Bins, isBin):
		return api.ErrRange
	case !slices.IsSorted(b.Rise[:]), !every(b.Bins, isInOrder):
		return api.ErrOrder
	}
	return api.OK
}

// checkBin returns the error of a barn, then that of a bin of it.
func checkBin(b Barn, bin int) api.Errno {
	if e := Check(b); e != api.OK {
		return e
	}
	if !b.hasBin(bin) {
		return api.ErrNot
	}
	return api.OK
}

// checkPlan returns the error of a barn, then that of a plan for it.
func checkPlan(b Barn, plan [][]int) api.Errno {
	if e := Check(b); e != api.OK {
		return e
	}
	return b.errorOf(plan)
}

// errorOf returns the error of a plan, day by day.
func (b Barn) errorOf(plan [][]int) api.Errno {
	if len(plan) > MaxWall {
		return api.ErrMany
	}
	for _, list := range plan {
		switch {
		case !every(list, b.hasBin):
			return api.ErrNot
		case !isIncreasing(list):
			return api.ErrOrder
		case len(list) > b.Gangs:
			return api.ErrFull
		}
	}
	return api.OK
}

// checkDays returns the error of a barn, then that of a number of days.
func checkDays(b Barn, days int) api.Errno {
	if e := Check(b); e != api.OK {
		return e
	}
	if !within(days, 0, MaxDays) {
		return api.ErrRange
	}
	return api.OK
}

// checkWall returns the error of a barn, then that of states for it, state by state.
func checkWall(b Barn, wall []State) api.Errno {
	if e := Check(b); e != api.OK {
		return e
	}
	if !within(len(wall), 1, MaxWall) {
		return api.ErrMany
	}
	for _, s := range wall {
		switch {
		case len(s.Left) != len(b.Bins):
			return api.ErrMany
		case !b.areLeft(s.Left), !within(s.Days, 0, MaxWall):
			return api.ErrRange
		}
	}
	return api.OK
}

// areLeft reports whether so many days can be left of the bins.
func (b Barn) areLeft(left []int) bool {
	for bin, days := range left {
		if b.neverWarms(bin) != (days == Ever) || days != Ever && !within(days, 0, MaxLeft) {
			return false
		}
	}
	return true
}

func isRise(n int) bool { return n == 0 || within(n, MinRise, MaxRise) }

// hasClasses reports whether both ends of a span are classes of damp, in whichever order they are.
func hasClasses(s api.Span) bool { return within(s.Lo, 0, 5) && within(s.Hi, 0, 5) }

func isBin(b Bin) bool {
	return within(b.Mark, 0, MaxMark) && within(b.Warm, 0, b.Mark) && hasClasses(b.Damp)
}

// isInOrder reports whether the damp of a bin has its ends the right way round.
func isInOrder(b Bin) bool { return !isEmpty(b.Damp) }

func (b Barn) hasBin(bin int) bool { return within(bin, 0, len(b.Bins)-1) }
