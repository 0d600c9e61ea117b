package heat

import (
	"slices"

	"staddle/api"
)

// way leads to a state: what it was before, which bins were turned, and how many on all days until then. No way that does
// not burn is as the one without anything, as a bin of which no day is left must be turned.
type way struct {
	from     state
	turned   turn
	turnings int
}

// layer is the states that can be reached by the end of a day, in the order in which they were found, and the ways to them
// with the fewest turnings.
type layer struct {
	states []state
	ways   map[state]way
}

// add takes a way to a state into a layer if there is none yet, or just one with more turnings.
func (l *layer) add(s state, found way) {
	old := l.ways[s]
	if old == (way{}) {
		l.states = append(l.states, s)
	}
	if old == (way{}) || found.turnings < old.turnings {
		l.ways[s] = found
	}
}

// layers returns the states that can be reached before day 0, and by the end of each of so many days.
func (w *barnAtWork) layers(days int) []layer {
	w.asked = w.gains
	all := []layer{{states: []state{w.state()}}}
	for day := range days {
		before := all[day]
		more := layer{ways: map[state]way{}}
		for _, s := range before.states {
			for t, next := range w.nexts(s) {
				more.add(next, way{from: s, turned: t, turnings: before.ways[s].turnings + t.count()})
			}
		}
		all = append(all, more)
	}
	return all
}

// best returns the state of a layer that is reached with the fewest turnings, and whether the layer has any.
func (l layer) best() (state, bool) {
	if len(l.states) == 0 {
		return state{}, false
	}
	return slices.MinFunc(l.states, func(a, b state) int { return l.ways[a].turnings - l.ways[b].turnings }), true
}

// fewest returns a plan of so many days with the fewest turnings, and their number: the errors of Check, then that of the
// number of days, then ErrNone.
func fewest(b Barn, days int) (plan [][]int, turnings int, e api.Errno) {
	if e := checkDays(b, days); e != api.OK {
		return nil, 0, e
	}
	layers := work(b).layers(days)
	s, ok := layers[days].best()
	if !ok {
		return nil, 0, api.ErrNone
	}
	turnings = layers[days].ways[s].turnings
	for day := days; day > 0; day-- {
		last := layers[day].ways[s]
		plan = append(plan, last.turned.list())
		s = last.from
	}
	slices.Reverse(plan)
	return plan, turnings, api.OK
}

// Plan returns a plan with the fewest turnings for some days.
func Plan(b Barn, days int) ([][]int, api.Errno) {
	plan, _, e := fewest(b, days)
	return plan, e
}

// Turnings returns the least number of turnings for some days.
func Turnings(b Barn, days int) (int, api.Errno) {
	_, turnings, e := fewest(b, days)
	return turnings, e
}
