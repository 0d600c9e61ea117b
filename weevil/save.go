package weevil

import (
	"iter"

	"staddle/api"
)

// place is the bins in which weevils are, and the gaps that are closed.
type place struct{ in, closed set }

// hopeless is more gaps than there can be: no plan saves the bins any more.
const hopeless = MaxGaps + 1

// after returns the place a week later, at the beginning of which some gaps are closed.
func (w houseAtWork) after(p place, closing set) place {
	closed := p.closed | closing
	return place{in: w.without(closed).spread(p.in), closed: closed}
}

// isSafe reports whether weevils never reach a bin that is to be kept from a place on, if no gap more is closed.
// No bin is as many weeks away as there are bins.
func (w houseAtWork) isSafe(p place) bool {
	return !w.without(p.closed).reachedBy(p.in, w.Bins).meets(w.keep)
}

// closings yields the sets of gaps of which a plan can close one in a week. To close a gap between bins in which weevils are is
// of no use.
func (w houseAtWork) closings(p place) iter.Seq[set] {
	var useful set
	for gap, g := range w.Gaps {
		if !p.closed.has(gap) && !(p.in.has(g.A) && p.in.has(g.B)) {
			useful = useful.with(gap)
		}
	}
	return func(yield func(set) bool) {
		for part := range useful.parts() {
			if part.size() <= w.speed && !yield(part) {
				return
			}
		}
	}
}

// cost returns how many gaps a plan closes at least that begins with some at a place, and saves the bins, or hopeless or more
// if there is none. If weevils come into no other bin in a week they never do, as no gap is opened again; so a plan is done
// after fewer weeks than there are bins.
func (w houseAtWork) cost(p place, closing set) int {
	next := w.after(p, closing)
	if next.in == p.in {
		return closing.size()
	}
	return closing.size() + w.fewest(next)
}

// fewest returns how many gaps a plan closes at least from a place on that saves the bins, or hopeless if there is none.
func (w houseAtWork) fewest(p place) int {
	if n, ok := w.found[p]; ok {
		return n
	}
	n := hopeless
	if !p.in.meets(w.keep) {
		for closing := range w.closings(p) {
			if closing.size() < n {
				n = least(n, w.cost(p, closing))
			}
		}
	}
	w.found[p] = n
	return n
}

// best returns gaps with which a plan begins that closes as few as can be from a place on, for which there must be one.
func (w houseAtWork) best(p place) set {
	for closing := range w.closings(p) {
		if w.cost(p, closing) == w.fewest(p) {
			return closing
		}
	}
	return 0
}

// plan returns a plan that closes as few gaps as can be, for which there must be one, up to the last week in which it closes
// any.
func (w houseAtWork) plan() [][]int {
	var plan [][]int
	for p := w.first(); w.fewest(p) > 0; {
		closing := w.best(p)
		plan = append(plan, closing.list())
		p = w.after(p, closing)
	}
	return plan
}

// first returns the place at the beginning.
func (w houseAtWork) first() place { return place{in: w.from} }

// canSave reports whether some plan saves the bins.
func (w houseAtWork) canSave() bool { return w.fewest(w.first()) < hopeless }

// workSaving begins to work on a house in which some plan saves the bins: the errors of workWeekly, then ErrNone.
func workSaving(h House, from, keep []int, speed int) (houseAtWork, api.Errno) {
	w, e := workWeekly(h, from, keep, speed)
	if e != api.OK {
		return houseAtWork{}, e
	}
	if !w.canSave() {
		return houseAtWork{}, api.ErrNone
	}
	return w, api.OK
}

// Save returns a plan that saves bins with as few gaps as can be.
func Save(h House, from, keep []int, speed int) ([][]int, api.Errno) {
	w, e := workSaving(h, from, keep, speed)
	if e != api.OK {
		return nil, e
	}
	return w.plan(), api.OK
}

// Fewest returns the least number of gaps of a plan that saves bins.
func Fewest(h House, from, keep []int, speed int) (int, api.Errno) {
	w, e := workSaving(h, from, keep, speed)
	if e != api.OK {
		return 0, e
	}
	return w.fewest(w.first()), api.OK
}

// Saved reports whether a plan saves bins.
func Saved(h House, from, keep []int, speed int, plan [][]int) (bool, api.Errno) {
	w, e := workWeekly(h, from, keep, speed)
	if e != api.OK {
		return false, e
	}
	if e := w.errorOfPlan(plan); e != api.OK {
		return false, e
	}
	p := w.first()
	for _, gaps := range plan {
		p = w.after(p, allOf(gaps))
	}
	return w.isSafe(p), api.OK
}

// Speed returns the least speed with which some plan saves bins.
func Speed(h House, from, keep []int) (int, api.Errno) {
	w, e := workBetween(h, from, keep)
	if e != api.OK {
		return 0, e
	}
	// With a speed of as many gaps as there are all of them can be closed at once.
	speed := 0
	for !w.withSpeed(speed).canSave() {
		speed++
	}
	return speed, api.OK
}
