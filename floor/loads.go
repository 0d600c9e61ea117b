package floor

import (
	"iter"
	"slices"

	"staddle/api"
)

// times yields the times of an order, each with the loads of all bays.
func (w *floorAtWork) times(order []int) iter.Seq2[int, load] {
	return func(yield func(int, load) bool) {
		l := w.first
		if !yield(0, l) {
			return
		}
		for k, turning := range order {
			l = l.plus(w.adds[turning])
			if !yield(k+1, l) {
				return
			}
		}
	}
}

// breaks returns the first time at which a bay is overloaded, the first such bay, and whether there is one. Loads that are
// as they were the time before need not be looked at again, nor at the beginning those of an empty granary.
func (w *floorAtWork) breaks(order []int) (time, bay int, breaks bool) {
	var before load
search:
	for at, l := range w.times(order) {
		if l == before {
			continue
		}
		for k := range len(w.Bears) {
			if l[k] > w.Bears[k] {
				time, bay, breaks = at, k, true
				break search
			}
		}
		before = l
	}
	return time, bay, breaks
}

// Ahead returns the turnings that are ahead of one.
func Ahead(f Floor, turning int) ([]int, api.Errno) {
	if e := Check(f); e != api.OK {
		return nil, e
	}
	if !f.hasTurning(turning) {
		return nil, api.ErrNot
	}
	return f.aheads()[turning].list(), api.OK
}

// Loads returns those of all bays at all times of an order.
func Loads(f Floor, order []int) ([][]int, api.Errno) {
	w, e := workIn(f, order)
	if e != api.OK {
		return nil, e
	}
	var all [][]int
	for _, l := range w.times(order) {
		all = append(all, slices.Clone(l[:len(f.Bears)]))
	}
	return all, api.OK
}

// Keeps reports whether an order does.
func Keeps(f Floor, order []int) (bool, api.Errno) {
	w, e := workIn(f, order)
	if e != api.OK {
		return false, e
	}
	_, _, breaks := w.breaks(order)
	return !breaks, api.OK
}

// Breaks returns the first time and bay that is overloaded.
func Breaks(f Floor, order []int) (time, bay int, e api.Errno) {
	w, e := workIn(f, order)
	if e != api.OK {
		return 0, 0, e
	}
	time, bay, breaks := w.breaks(order)
	if !breaks {
		return 0, 0, api.ErrNone
	}
	return time, bay, api.OK
}

// Margin returns that of an order.
func Margin(f Floor, order []int) (int, api.Errno) {
	w, e := workIn(f, order)
	if e != api.OK {
		return 0, e
	}
	margin := w.margin(w.first)
	for _, l := range w.times(order) {
		margin = least(margin, w.margin(l))
	}
	return margin, api.OK
}
