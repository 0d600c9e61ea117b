package heat

import (
	"iter"
	"slices"

	"staddle/api"
)

// stateOf returns listed numbers as a state.
func stateOf(left []int) state {
	var s state
	copy(s[:], left)
	return s
}

// aboves yields the states of which one number is greater by one than in a state. A number that is Ever stays so.
func (w *barnAtWork) aboves(s state) iter.Seq[state] {
	return func(yield func(state) bool) {
		for bin := range w.Bins {
			above := s
			above[bin]++
			if s[bin] < MaxLeft && !yield(above) {
				return
			}
		}
	}
}

// raiser returns a function that raises states as far as they are not kept for longer: the higher the states of a wall
// are, the fewer it needs.
func (w *barnAtWork) raiser() func(state) state {
	var raise func(s state) state
	raise = func(s state) state {
		for above := range w.aboves(s) {
			if w.keep(above) == w.keep(s) {
				return raise(above)
			}
		}
		return s
	}
	return raise
}

// wall returns the states, all raised, that a state which is not kept for ever comes to, each with the days for which it
// can be kept.
func (w *barnAtWork) wall() []State {
	raise := w.raiser()
	states := []state{raise(w.state())}
	listed := map[state]bool{states[0]: true}
	var wall []State
	for i := 0; i < len(states); i++ {
		s := states[i]
		wall = append(wall, State{Left: slices.Clone(s[:len(w.Bins)]), Days: w.keep(s)})
		for _, next := range w.nexts(s) {
			if high := raise(next); !listed[high] {
				listed[high] = true
				states = append(states, high)
			}
		}
	}
	return wall
}

// finder returns a function that finds the least Days of the states of a wall that have a state under them, or Ever if
// there are none.
func (w *barnAtWork) finder(wall []State) func(state) int {
	least := map[state]int{}
	for _, one := range wall {
		s := stateOf(one.Left)
		if days, ok := least[s]; !ok || one.Days < days {
			least[s] = one.Days
		}
	}
	found := map[state]int{}
	var find func(s state) int
	find = func(s state) int {
		if days, ok := found[s]; ok {
			return days
		}
		days, ok := least[s]
		if !ok {
			days = Ever
		}
		for above := range w.aboves(s) {
			days = min(days, find(above))
		}
		found[s] = days
		return days
	}
	return find
}

// Wall returns a wall that shows for how long a barn can be kept.
func Wall(b Barn) ([]State, api.Errno) {
	if e := Check(b); e != api.OK {
		return nil, e
	}
	w := work(b)
	if w.keep(w.state()) == Ever {
		return nil, api.ErrNone
	}
	return w.wall(), api.OK
}

// Shows returns what a wall shows.
func Shows(b Barn, wall []State) (int, api.Errno) {
	if e := checkWall(b, wall); e != api.OK {
		return 0, e
	}
	w := work(b)
	find := w.finder(wall)
	shown := find(w.state())
	if shown == Ever {
		return 0, api.ErrWrong
	}
	for _, one := range wall {
		for _, next := range w.nexts(stateOf(one.Left)) {
			if find(next) >= one.Days {
				return 0, api.ErrWrong
			}
		}
	}
	return shown, api.OK
}
