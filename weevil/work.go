package weevil

import (
	"iter"

	"staddle/api"
)

// weeks are those in which weevils reach each bin, or Never.
type weeks [MaxBins]int

// houseAtWork is a house, of whose gaps those that are open can be gone through; with the bins from which weevils come and
// those that are to be kept, how many gaps can be closed in a week, and what was found of the places that there can be then.
type houseAtWork struct {
	House
	open       func(gap int) bool
	from, keep set
	speed      int
	found      map[place]int
}

// work begins to work on a house all of whose gaps are open: the errors of Check.
func work(h House) (houseAtWork, api.Errno) {
	if e := Check(h); e != api.OK {
		return houseAtWork{}, e
	}
	return houseAtWork{House: h, open: h.hasGap}, api.OK
}

// workFrom begins to work on a house and a list of bins: the errors of Check, then those of the list.
func workFrom(h House, from []int) (houseAtWork, api.Errno) {
	w, e := work(h)
	if e != api.OK {
		return houseAtWork{}, e
	}
	if w.from, e = setOf(from, w.hasBin); e != api.OK {
		return houseAtWork{}, e
	}
	return w, api.OK
}

// workBetween begins to work on a house and two lists of bins: the errors of Check, then those of the two lists.
func workBetween(h House, from, keep []int) (houseAtWork, api.Errno) {
	w, e := workFrom(h, from)
	if e != api.OK {
		return houseAtWork{}, e
	}
	if w.keep, e = setOf(keep, w.hasBin); e != api.OK {
		return houseAtWork{}, e
	}
	if w.from.meets(w.keep) {
		return houseAtWork{}, api.ErrClash
	}
	return w, api.OK
}

// workWeekly begins to work on a house, two lists of bins and a speed: the errors of Check, then those of the two lists, then
// that of the speed.
func workWeekly(h House, from, keep []int, speed int) (houseAtWork, api.Errno) {
	w, e := workBetween(h, from, keep)
	if e != api.OK {
		return houseAtWork{}, e
	}
	if !isSpeed(speed) {
		return houseAtWork{}, api.ErrRange
	}
	return w.withSpeed(speed), api.OK
}

// withSpeed returns a house at work with another speed, of which nothing was found yet.
func (w houseAtWork) withSpeed(speed int) houseAtWork {
	w.speed, w.found = speed, map[place]int{}
	return w
}

// without returns a house at work all of whose gaps are open but some.
func (w houseAtWork) without(closed set) houseAtWork {
	w.open = func(gap int) bool { return !closed.has(gap) }
	return w
}

// gapsOut yields the open gaps that lead out of a bin, in increasing order, each with the bin that it leads to.
func (w houseAtWork) gapsOut(bin int) iter.Seq2[int, int] {
	return func(yield func(gap, next int) bool) {
		for gap, g := range w.Gaps {
			if g.B == bin {
				g = Gap{A: g.B, B: g.A}
			}
			if g.A == bin && w.open(gap) && !yield(gap, g.B) {
				return
			}
		}
	}
}

// binsThat returns the bins that are as they are asked to be.
func (w houseAtWork) binsThat(is func(bin int) bool) set {
	var all set
	for bin := range w.Bins {
		if is(bin) {
			all = all.with(bin)
		}
	}
	return all
}

// spread returns the bins in which weevils are a week after they were in some.
func (w houseAtWork) spread(in set) set {
	more := in
	for bin := range w.Bins {
		if in.has(bin) {
			for _, next := range w.gapsOut(bin) {
				more = more.with(next)
			}
		}
	}
	return more
}

// weeksFrom returns the weeks in which weevils that come from a list of bins reach each bin. If they reach none in a week they
// reach no other one any more.
func (w houseAtWork) weeksFrom(from set) weeks {
	var found weeks
	for bin := range MaxBins {
		found[bin] = Never
	}
	in := from
	for week := 0; ; week++ {
		before := found
		for bin := range w.Bins {
			if in.has(bin) && found[bin] == Never {
				found[bin] = week
			}
		}
		if found == before {
			return found
		}
		in = w.spread(in)
	}
}

// reachedBy returns the bins that weevils that come from a list of bins have reached in at most so many weeks.
func (w houseAtWork) reachedBy(from set, most int) set {
	var in set
	for bin, week := range w.weeksFrom(from) {
		if within(week, 0, most) {
			in = in.with(bin)
		}
	}
	return in
}
