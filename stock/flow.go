package stock

import (
	"iter"

	"staddle/api"
)

// flow is grain that goes from one cell to another: within bounds, and so many sacks of it until now.
type flow struct {
	from, to Cell
	bounds   api.Span
	sacks    int
}

// yardAtWork is a yard with the levels of it that count, with its flows, and with what is made greater: a step, as long
// as there is one to make.
type yardAtWork struct {
	Yard
	counts  choice
	flows   []flow
	greater func() (step, bool)
}

// work begins to work on a yard of which some levels count, with no grain in any flow.
func work(y Yard, counts choice) *yardAtWork {
	w := &yardAtWork{Yard: y, counts: counts}
	for f := range w.eachFlow() {
		w.flows = append(w.flows, f)
	}
	return w
}

// workWithAll begins to work on a yard all of whose levels count.
func workWithAll(y Yard) *yardAtWork { return work(y, y.all()) }

// eachFlow yields the flows of a yard: its moves; the contents of each bin at each time; and the contents of all bins at
// each time, which go back outside.
func (w *yardAtWork) eachFlow() iter.Seq[flow] {
	return func(yield func(flow) bool) {
		for _, m := range w.Moves {
			if !yield(flow{from: Cell{Bin: m.From, Day: m.Day}, to: Cell{Bin: m.To, Day: m.Day}, bounds: m.Sacks}) {
				return
			}
		}
		for bin := range w.Bins {
			for time := range w.Days + 1 {
				if !yield(flow{from: w.cell(bin, time-1), to: w.cell(bin, time), bounds: w.bounds(bin, time)}) {
					return
				}
			}
		}
		for time := range w.Days + 1 {
			if !yield(w.wholeFlow(time)) {
				return
			}
		}
	}
}

// contents returns the number of the flow of what a bin has at a time. (That of a move is the number of the move.)
func (w *yardAtWork) contents(bin, time int) int {
	return len(w.Moves) + bin*(w.Days+1) + time
}

// whole returns the number of the flow of what all bins have at a time.
func (w *yardAtWork) whole(time int) int {
	return w.contents(len(w.Bins), time)
}

// cell returns a bin on a day, or outside on this day if it is none of the yard.
func (w *yardAtWork) cell(bin, day int) Cell {
	if !w.hasDay(day) {
		return Cell{Bin: Outside, Day: day}
	}
	return Cell{Bin: bin, Day: day}
}

// wholeFlow returns the flow of what all bins have at a time. Outside has a cell for each day, so that just this flow must
// bring back what goes on in all bins from the days before the time to those after it. Its bounds are never met, so that
// whatever reaches one of the cells outside reaches all of them: to a proof they are one.
func (w *yardAtWork) wholeFlow(time int) flow {
	return flow{
		from:   Cell{Bin: Outside, Day: time},
		to:     Cell{Bin: Outside, Day: time - 1},
		bounds: api.Span{Lo: -1, Hi: MaxBins*MaxSacks + 1},
	}
}

// bounds returns within which numbers of sacks a bin is at a time, by what it holds and the levels that count.
func (w *yardAtWork) bounds(bin, time int) api.Span {
	s := api.Span{Lo: 0, Hi: w.Bins[bin].Holds}
	if time == 0 {
		s = meet(s, w.Bins[bin].First)
	}
	for k, l := range w.Levels {
		if w.counts[k] && l.Bin == bin && l.Day == time {
			s = meet(s, l.Sacks)
		}
	}
	return s
}
