package floor

import (
	"iter"
	"slices"

	"staddle/api"
)

// letPass lets orders pass sets that are as they are asked to be, and no others.
func (w *floorAtWork) letPass(passes func(s set) bool) {
	w.passes, w.ways = passes, map[set]int{}
}

// nexts yields the turnings that can be done after those of a set, in increasing order, each with the set that it leads to.
func (w *floorAtWork) nexts(s set) iter.Seq2[int, set] {
	return func(yield func(int, set) bool) {
		for turning := range len(w.Turnings) {
			if !s.has(turning) && s.hasAll(w.ahead[turning]) && !yield(turning, s.with(turning)) {
				return
			}
		}
	}
}

// count returns in how many ways all that is left after a set can be done, passing that set and others that may be passed.
func (w *floorAtWork) count(s set) int {
	if n, ok := w.ways[s]; ok {
		return n
	}
	n := 0
	if w.passes(s) {
		if s == w.all() {
			n = 1
		}
		for _, next := range w.nexts(s) {
			n += w.count(next)
		}
	}
	w.ways[s] = n
	return n
}

// goesOn reports whether there is an order that passes no sets but those that may be passed.
func (w *floorAtWork) goesOn() bool { return w.count(0) > 0 }

// onward returns the turnings that can be done after those of a set by such an order, in increasing order.
func (w *floorAtWork) onward(s set) []int {
	var list []int
	for turning, next := range w.nexts(s) {
		if w.count(next) > 0 {
			list = append(list, turning)
		}
	}
	return list
}

// order returns the first such order, if there is one.
func (w *floorAtWork) order() []int {
	var order []int
	var done set
	for done != w.all() {
		turning := w.onward(done)[0]
		order = append(order, turning)
		done = done.with(turning)
	}
	return order
}

// margins returns those of all whole sets, each once, the greatest one first.
func (w *floorAtWork) margins() []int {
	var margins []int
	for s := range w.wholes() {
		margins = append(margins, w.margin(w.after(s)))
	}
	slices.Sort(margins)
	margins = slices.Compact(margins)
	slices.Reverse(margins)
	return margins
}

// workSafely begins to work on a floor that some order keeps: the errors of Check, then ErrNone.
func workSafely(f Floor) (*floorAtWork, api.Errno) {
	w, e := work(f)
	if e != api.OK {
		return nil, e
	}
	if !w.goesOn() {
		return nil, api.ErrNone
	}
	return w, api.OK
}

// Safe returns the first order that keeps.
func Safe(f Floor) ([]int, api.Errno) {
	w, e := workSafely(f)
	if e != api.OK {
		return nil, e
	}
	return w.order(), api.OK
}

// Safest returns an order with the greatest margin, and this margin.
func Safest(f Floor) ([]int, int, api.Errno) {
	w, e := work(f)
	if e != api.OK {
		return nil, 0, e
	}
	margins := w.margins()
	at := slices.IndexFunc(margins, func(margin int) bool {
		w.letPass(func(s set) bool { return w.margin(w.after(s)) >= margin })
		return w.goesOn()
	})
	return w.order(), margins[at], api.OK
}

// Count returns the number of orders that keep.
func Count(f Floor) (int, api.Errno) {
	w, e := work(f)
	if e != api.OK {
		return 0, e
	}
	return w.count(0), api.OK
}

// Firsts returns the turnings with which an order begins that keeps.
func Firsts(f Floor) ([]int, api.Errno) {
	w, e := workSafely(f)
	if e != api.OK {
		return nil, e
	}
	return w.onward(0), api.OK
}

// Must reports whether a turning comes before another one in all orders that keep.
func Must(f Floor, a, b int) (bool, api.Errno) {
	w, e := work(f)
	if e != api.OK {
		return false, e
	}
	switch {
	case !w.hasTurning(a), !w.hasTurning(b):
		return false, api.ErrNot
	case a == b:
		return false, api.ErrTwice
	case !w.goesOn():
		return false, api.ErrNone
	}
	w.letPass(func(s set) bool { return w.keeps(s) && (s.has(b) || !s.has(a)) })
	return !w.goesOn(), api.OK
}
