package heat

import "iter"

// state is the days that are left of each bin.
type state [MaxBins]int

// turn tells which bins are turned on a day.
type turn [MaxBins]bool

// barnAtWork is a barn with the days for which each bin lasts, with what is asked of a day on which some bins are turned,
// and with the days for which each state can be kept, as far as they were found.
type barnAtWork struct {
	Barn
	lasting state
	asked   func(s state, t turn) bool
	kept    map[state]int
}

// work begins to work on a barn in which no gang is idle as long as a bin is better for it.
func work(b Barn) *barnAtWork {
	w := &barnAtWork{Barn: b, kept: map[state]int{}}
	w.asked = w.isBusy
	for bin := range b.Bins {
		w.lasting[bin] = b.lasts(bin)
	}
	return w
}

// state returns the state of the barn.
func (w *barnAtWork) state() state {
	var s state
	for bin := range w.Bins {
		s[bin] = w.left(bin)
	}
	return s
}

// turned returns the bins of a list as a turn.
func turned(list []int) turn {
	var t turn
	for _, bin := range list {
		t[bin] = true
	}
	return t
}

// list returns the bins of a turn in increasing order.
func (t turn) list() []int {
	var list []int
	for bin, is := range t {
		if is {
			list = append(list, bin)
		}
	}
	return list
}

// count returns how many bins are turned.
func (t turn) count() int {
	n := 0
	for _, is := range t {
		if is {
			n++
		}
	}
	return n
}

// turns yields the lists of bins that can be turned on a day: no more of them than there are gangs.
func (w *barnAtWork) turns() iter.Seq[turn] {
	return func(yield func(turn) bool) {
		for set := range 1 << len(w.Bins) {
			var t turn
			for bin := range w.Bins {
				t[bin] = set>>bin&1 == 1
			}
			if t.count() <= w.Gangs && !yield(t) {
				return
			}
		}
	}
}

// next returns the state to which a state comes by turning bins, and whether it does not burn.
func (w *barnAtWork) next(s state, t turn) (state, bool) {
	for bin := range w.Bins {
		if t[bin] {
			s[bin] = greatest(s[bin], w.lasting[bin])
		}
		if s[bin] == 0 {
			return state{}, false
		}
		if s[bin] != Ever {
			s[bin]--
		}
	}
	return s, true
}

// nexts yields the turns that are as they are asked to be and by which a state does not burn, each with the next state.
func (w *barnAtWork) nexts(s state) iter.Seq2[turn, state] {
	return func(yield func(turn, state) bool) {
		for t := range w.turns() {
			if !w.asked(s, t) {
				continue
			}
			if next, ok := w.next(s, t); ok && !yield(t, next) {
				return
			}
		}
	}
}

// gaining returns the bins of which more days are left in a state if they are turned.
func (w *barnAtWork) gaining(s state) turn {
	var t turn
	for bin := range w.Bins {
		t[bin] = s[bin] < w.lasting[bin]
	}
	return t
}

// gains reports whether each bin that is turned is better for it.
func (w *barnAtWork) gains(s state, t turn) bool {
	better := w.gaining(s)
	for bin, is := range t {
		if is && !better[bin] {
			return false
		}
	}
	return true
}

// isBusy reports whether no gang is idle, or turns a bin in vain, that could turn one which is better for it. For any other
// turn there is one that is busy and after which no fewer days are left of any bin, so that it need not be looked at.
func (w *barnAtWork) isBusy(s state, t turn) bool {
	return w.gains(s, t) && t.count() == min(w.Gangs, w.gaining(s).count())
}
