package floor

import (
	"iter"

	"staddle/api"
)

// load is the quarters that lie on each bay.
type load [MaxBays]int

// floorAtWork is a floor with the loads at the beginning, what each turning adds to them (less than 0 if it lessens them),
// and which turnings are ahead of it; with the sets that an order may pass, and in how many ways all that is left after a
// set can be done, as far as it was found.
type floorAtWork struct {
	Floor
	first  load
	adds   [MaxTurnings]load
	ahead  sets
	passes func(s set) bool
	ways   map[set]int
}

// work begins to work on a floor on which orders may pass all sets that overload no bay: the errors of Check.
func work(f Floor) (*floorAtWork, api.Errno) {
	if e := Check(f); e != api.OK {
		return nil, e
	}
	w := &floorAtWork{Floor: f, ahead: f.aheads()}
	for k, bin := range f.Bins {
		w.first = w.first.plus(f.weigh(k, bin.Has))
	}
	for k, t := range f.Turnings {
		w.adds[k] = f.weigh(t.To, t.Sacks).plus(f.weigh(t.From, -t.Sacks))
	}
	w.letPass(w.keeps)
	return w, api.OK
}

// workAt begins to work on a floor and a bay of it: the errors of Check, then that of the bay.
func workAt(f Floor, bay int) (*floorAtWork, api.Errno) {
	w, e := work(f)
	if e != api.OK {
		return nil, e
	}
	if !w.hasBay(bay) {
		return nil, api.ErrNot
	}
	return w, api.OK
}

// workIn begins to work on a floor and an order: the errors of Check, then those of the order.
func workIn(f Floor, order []int) (*floorAtWork, api.Errno) {
	w, e := work(f)
	if e != api.OK {
		return nil, e
	}
	if e := w.errorOf(order); e != api.OK {
		return nil, e
	}
	return w, api.OK
}

// plus returns loads and others, added.
func (l load) plus(other load) load {
	for bay := range MaxBays {
		l[bay] += other[bay]
	}
	return l
}

// weigh returns the load of so many sacks in a bin, which is none outside.
func (f Floor) weigh(bin, sacks int) load {
	var l load
	if bin == Outside {
		return l
	}
	for bay := range len(f.Bears) {
		l[bay] = sacks * f.Bins[bin].Shares[bay]
	}
	return l
}

// all returns the set of all turnings.
func (w *floorAtWork) all() set { return 1<<len(w.Turnings) - 1 }

// isWhole reports whether all that is ahead of a turning of a set is in it, too.
func (w *floorAtWork) isWhole(s set) bool {
	return every(s.list(), func(turning int) bool { return s.hasAll(w.ahead[turning]) })
}

// wholes yields the whole sets.
func (w *floorAtWork) wholes() iter.Seq[set] {
	return func(yield func(set) bool) {
		for s := range w.all() + 1 {
			if w.isWhole(s) && !yield(s) {
				return
			}
		}
	}
}

// after returns the loads after the turnings of a set.
func (w *floorAtWork) after(s set) load {
	l := w.first
	for _, turning := range s.list() {
		l = l.plus(w.adds[turning])
	}
	return l
}

// margin returns the least number, over all bays, of what one bears, less its load.
func (w *floorAtWork) margin(l load) int {
	var margins []int
	for bay := range len(w.Bears) {
		margins = append(margins, w.Bears[bay]-l[bay])
	}
	return least(margins[0], margins[1:]...)
}

// keeps reports whether no bay is overloaded after the turnings of a set.
func (w *floorAtWork) keeps(s set) bool { return w.margin(w.after(s)) >= 0 }
