package heat

import (
	"slices"

	"staddle/api"
)

// keep returns for how many days a state can be kept. Until that is known it counts as kept for ever, as it is if the way
// from it leads back to it.
func (w *barnAtWork) keep(s state) int {
	if days, ok := w.kept[s]; ok {
		return days
	}
	w.kept[s] = Ever
	longest := 0
	for _, next := range w.nexts(s) {
		days := w.keep(next)
		if days == Ever {
			return Ever
		}
		longest = greatest(longest, days+1)
	}
	w.kept[s] = longest
	return longest
}

// longest returns the greatest number of days for which some plan keeps, with any number of gangs.
func longest(b Barn) int {
	w := work(b)
	return w.keep(w.state())
}

// onward returns a turn by which a state that is kept for ever comes to another such one, and this one.
func (w *barnAtWork) onward(s state) (turn, state) {
	for t, next := range w.nexts(s) {
		if w.keep(next) == Ever {
			return t, next
		}
	}
	return turn{}, state{}
}

// after returns the state after a plan that begins in a state, and whether it does not burn.
func (w *barnAtWork) after(s state, plan [][]int) (state, bool) {
	for _, list := range plan {
		next, ok := w.next(s, turned(list))
		if !ok {
			return state{}, false
		}
		s = next
	}
	return s, true
}

// goes reports whether a plan can be repeated for ever. Of each bin it leaves either fewer days each time, until it burns,
// or in the end always as many.
func (w *barnAtWork) goes(s state, round [][]int) bool {
	for {
		next, ok := w.after(s, round)
		if !ok {
			return false
		}
		if next == s {
			return true
		}
		s = next
	}
}

// Longest returns the greatest number of days for which some plan keeps.
func Longest(b Barn) (int, api.Errno) {
	if e := Check(b); e != api.OK {
		return 0, e
	}
	return longest(b), api.OK
}

// First returns the first day on which some bin can burn whatever is turned.
func First(b Barn) (int, api.Errno) {
	if e := Check(b); e != api.OK {
		return 0, e
	}
	days := longest(b)
	if days == Ever {
		return 0, api.ErrNone
	}
	return days, api.OK
}

// Spare returns the least number of gangs with which a barn can be kept for ever.
func Spare(b Barn) (int, api.Errno) {
	if e := Check(b); e != api.OK {
		return 0, e
	}
	for gangs := range len(b.Bins) + 1 {
		b.Gangs = gangs
		if longest(b) == Ever {
			return gangs, api.OK
		}
	}
	return 0, api.ErrNone
}

// Round returns two plans that keep, the second one as often as one likes.
func Round(b Barn) (start, round [][]int, e api.Errno) {
	if e := Check(b); e != api.OK {
		return nil, nil, e
	}
	w := work(b)
	s := w.state()
	if w.keep(s) != Ever {
		return nil, nil, api.ErrNone
	}
	var plan [][]int
	reached := map[state]int{}
	for {
		if day, ok := reached[s]; ok {
			return slices.Clone(plan[:day]), slices.Clone(plan[day:]), api.OK
		}
		reached[s] = len(plan)
		t, next := w.onward(s)
		plan = append(plan, t.list())
		s = next
	}
}

// Goes reports whether two plans keep, the second one as often as one likes.
func Goes(b Barn, start, round [][]int) (bool, api.Errno) {
	if e := checkPlan(b, start); e != api.OK {
		return false, e
	}
	if e := b.errorOf(round); e != api.OK {
		return false, e
	}
	if len(round) == 0 {
		return false, api.ErrNone
	}
	w := work(b)
	s, ok := w.after(w.state(), start)
	return ok && w.goes(s, round), api.OK
}
