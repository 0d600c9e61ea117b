package stock

import (
	"iter"
	"slices"

	"staddle/api"
)

// step is a flow that is made greater, or less.
type step struct {
	flow int
	less bool
}

// ends returns the cell from which a step brings grain on, and the one to which.
func (w *yardAtWork) ends(s step) (from, to Cell) {
	f := &w.flows[s.flow]
	if s.less {
		return f.to, f.from
	}
	return f.from, f.to
}

// room returns how many sacks a step can bring on; of a flow that has too little it is below 0 to make it less.
func (w *yardAtWork) room(s step) int {
	f := &w.flows[s.flow]
	if s.less {
		return f.sacks - f.bounds.Lo
	}
	return f.bounds.Hi - f.sacks
}

// onward yields the steps by which grain can go on from a cell, each with the cell to which it goes.
func (w *yardAtWork) onward(at Cell) iter.Seq2[step, Cell] {
	return func(yield func(step, Cell) bool) {
		for k := range w.flows {
			for _, s := range [2]step{{flow: k}, {flow: k, less: true}} {
				from, to := w.ends(s)
				if from == at && w.room(s) > 0 && !yield(s, to) {
					return
				}
			}
		}
	}
}

// reach looks for ways from the end of a step to its beginning, by other flows. It returns by which step each cell was
// reached, the end by the step itself; all that can be reached, if the beginning is not.
func (w *yardAtWork) reach(first step) map[Cell]step {
	begin, end := w.ends(first)
	reached := map[Cell]step{end: first}
	cells := []Cell{end}
search:
	for i := 0; i < len(cells); i++ {
		for s, to := range w.onward(cells[i]) {
			if _, ok := reached[to]; ok || s.flow == first.flow {
				continue
			}
			reached[to] = s
			if to == begin {
				break search
			}
			cells = append(cells, to)
		}
	}
	return reached
}

// round returns a step and others by which what it brings on comes back to where it begins, or none if it cannot.
func (w *yardAtWork) round(first step) []step {
	at, _ := w.ends(first)
	reached := w.reach(first)
	if _, ok := reached[at]; !ok {
		return nil
	}
	var steps []step
	for {
		s := reached[at]
		steps = append(steps, s)
		if s == first {
			return steps
		}
		at, _ = w.ends(s)
	}
}

// goRound makes each step of a round by as many sacks as all of them can bring on.
func (w *yardAtWork) goRound(steps []step) {
	rooms := make([]int, len(steps))
	for i, s := range steps {
		rooms[i] = w.room(s)
	}
	sacks := least(rooms[0], rooms[1:]...)
	for _, s := range steps {
		if s.less {
			w.flows[s.flow].sacks -= sacks
		} else {
			w.flows[s.flow].sacks += sacks
		}
	}
}

// raise makes greater what is to be made greater, until it is as great as can be.
func (w *yardAtWork) raise() {
	for {
		s, ok := w.greater()
		if !ok {
			return
		}
		steps := w.round(s)
		if len(steps) == 0 {
			return
		}
		w.goRound(steps)
	}
}

// tooLittle returns the step that makes the first flow greater which has less than it must.
func (w *yardAtWork) tooLittle() (step, bool) {
	for k, f := range w.flows {
		if f.sacks < f.bounds.Lo {
			return step{flow: k}, true
		}
	}
	return step{}, false
}

// fill brings all flows within their bounds, and reports whether that can be.
func (w *yardAtWork) fill() bool {
	if slices.ContainsFunc(w.flows, func(f flow) bool { return isEmpty(f.bounds) }) {
		return false
	}
	w.greater = w.tooLittle
	w.raise()
	_, ok := w.tooLittle()
	return !ok
}

// most makes a step, in a yard that is filled, by as much as can be, and returns what its flow has then.
func (w *yardAtWork) most(s step) int {
	w.greater = func() (step, bool) { return s, w.room(s) > 0 }
	w.raise()
	return w.flows[s.flow].sacks
}

// span returns the least and the greatest that a flow can have in a yard that is filled.
func (w *yardAtWork) span(flow int) api.Span {
	lo := w.most(step{flow: flow, less: true})
	hi := w.most(step{flow: flow})
	return api.Span{Lo: lo, Hi: hi}
}
