package heat

import (
	"iter"

	"staddle/api"
)

// warmth is how warm each bin can be. The less damp grain is, the less warm it gets on all days: what is least and what
// is most come from the ends of the damp.
type warmth [MaxBins]api.Span

// rises returns the least and the greatest rise of a bin.
func (b Barn) rises(bin int) api.Span {
	damp := b.Bins[bin].Damp
	return api.Span{Lo: b.Rise[damp.Lo], Hi: b.Rise[damp.Hi]}
}

func (b Barn) neverWarms(bin int) bool { return b.rises(bin).Hi == 0 }

// daysFrom returns for how many days a bin that has so many degrees cannot burn if it is not turned.
func (b Barn) daysFrom(bin, degrees int) int {
	if b.neverWarms(bin) {
		return Ever
	}
	return greatest(0, b.Bins[bin].Mark-degrees) / b.rises(bin).Hi
}

// left returns what is left of a bin.
func (b Barn) left(bin int) int { return b.daysFrom(bin, b.Bins[bin].Warm) }

// lasts returns for how many days a bin lasts.
func (b Barn) lasts(bin int) int { return b.daysFrom(bin, b.Cool) }

// atFirst returns how warm the bins are before day 0.
func (b Barn) atFirst() warmth {
	var w warmth
	for k, bin := range b.Bins {
		w[k] = api.Span{Lo: bin.Warm, Hi: bin.Warm}
	}
	return w
}

// warmer returns how warm the bins can be after a day on which listed ones are turned.
func (b Barn) warmer(w warmth, list []int) warmth {
	for _, bin := range list {
		w[bin] = api.Span{Lo: min(w[bin].Lo, b.Cool), Hi: min(w[bin].Hi, b.Cool)}
	}
	for bin := range b.Bins {
		rises := b.rises(bin)
		w[bin].Lo += rises.Lo
		w[bin].Hi += rises.Hi
	}
	return w
}

// ends yields the days of a plan, each with how warm the bins can be at its end.
func (b Barn) ends(plan [][]int) iter.Seq2[int, warmth] {
	return func(yield func(int, warmth) bool) {
		w := b.atFirst()
		for day, list := range plan {
			w = b.warmer(w, list)
			if !yield(day, w) {
				return
			}
		}
	}
}

// burns returns the first day on which a bin can burn, the first such bin, and whether there is one.
func (b Barn) burns(plan [][]int) (day, bin int, burns bool) {
search:
	for end, w := range b.ends(plan) {
		for k, one := range b.Bins {
			if w[k].Hi > one.Mark {
				day, bin, burns = end, k, true
				break search
			}
		}
	}
	return day, bin, burns
}

// Rises returns the least and the greatest rise of a bin.
func Rises(b Barn, bin int) (api.Span, api.Errno) {
	if e := checkBin(b, bin); e != api.OK {
		return api.Span{}, e
	}
	return b.rises(bin), api.OK
}

// Left returns for how many days a bin cannot burn if it is not turned.
func Left(b Barn, bin int) (int, api.Errno) {
	if e := checkBin(b, bin); e != api.OK {
		return 0, e
	}
	return b.left(bin), api.OK
}

// Lasts returns for how many days a bin lasts.
func Lasts(b Barn, bin int) (int, api.Errno) {
	if e := checkBin(b, bin); e != api.OK {
		return 0, e
	}
	return b.lasts(bin), api.OK
}

// Warmth returns how warm a bin can be at the end of each day of a plan.
func Warmth(b Barn, plan [][]int, bin int) ([]api.Span, api.Errno) {
	if e := checkPlan(b, plan); e != api.OK {
		return nil, e
	}
	switch {
	case len(plan) > MaxDays:
		return nil, api.ErrMany
	case !b.hasBin(bin):
		return nil, api.ErrNot
	}
	var all []api.Span
	for _, w := range b.ends(plan) {
		all = append(all, w[bin])
	}
	return all, api.OK
}

// Keeps reports whether a plan keeps.
func Keeps(b Barn, plan [][]int) (bool, api.Errno) {
	if e := checkPlan(b, plan); e != api.OK {
		return false, e
	}
	_, _, burns := b.burns(plan)
	return !burns, api.OK
}

// Burns returns the first day on which a bin can burn, and this bin.
func Burns(b Barn, plan [][]int) (day, bin int, e api.Errno) {
	if e := checkPlan(b, plan); e != api.OK {
		return 0, 0, e
	}
	day, bin, burns := b.burns(plan)
	if !burns {
		return 0, 0, api.ErrNone
	}
	return day, bin, api.OK
}

// After returns the barn after a plan that keeps.
func After(b Barn, plan [][]int) (Barn, api.Errno) {
	if e := checkPlan(b, plan); e != api.OK {
		return Barn{}, e
	}
	if _, _, burns := b.burns(plan); burns {
		return Barn{}, api.ErrWrong
	}
	w := b.atFirst()
	for _, end := range b.ends(plan) {
		w = end
	}
	b = b.withBins()
	for bin := range b.Bins {
		b.Bins[bin].Warm = w[bin].Hi
	}
	return b, api.OK
}
