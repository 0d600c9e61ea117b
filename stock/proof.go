package stock

import (
	"slices"

	"staddle/api"
)

// before reports whether a cell comes before another one: by bin, then by day.
func (c Cell) before(d Cell) bool {
	if c.Bin != d.Bin {
		return c.Bin < d.Bin
	}
	return c.Day < d.Day
}

// areInOrder reports whether each cell of a list comes before the next one.
func areInOrder(cells []Cell) bool {
	for i := 1; i < len(cells); i++ {
		if !cells[i-1].before(cells[i]) {
			return false
		}
	}
	return true
}

// surplus returns by how much a proof holds; it does not if this is less than 1.
func (w *yardAtWork) surplus(p Proof) int {
	if len(p.Cells) == 0 {
		return w.gap()
	}
	must, can := 0, 0
	for _, f := range w.flows {
		from, to := slices.Contains(p.Cells, f.from), slices.Contains(p.Cells, f.to)
		switch {
		case from == to:
		case to != p.Out:
			must += f.bounds.Lo
		default:
			can += f.bounds.Hi
		}
	}
	return must - can
}

// gap returns the greatest difference of the Lo and the Hi of a flow, or 0 if all flows have their Lo before their Hi.
func (w *yardAtWork) gap() int {
	most := 0
	for _, f := range w.flows {
		most = max(most, f.bounds.Lo-f.bounds.Hi)
	}
	return most
}

// proof returns a proof that a flow which must be made greater by a step cannot be. What the step brings into the cells
// that it reaches cannot leave them, as all flows out of them are full, and all flows into them have no more than they
// must. If these cells are those outside too, which no proof has, then all others are one.
func (w *yardAtWork) proof(s step) Proof {
	reached := w.reach(s)
	_, out := reached[Cell{Bin: Outside, Day: w.Days}]
	p := Proof{Out: out}
	for bin := range w.Bins {
		for day := range w.Days {
			if _, ok := reached[Cell{Bin: bin, Day: day}]; ok != out {
				p.Cells = append(p.Cells, Cell{Bin: bin, Day: day})
			}
		}
	}
	return p
}

// Prove returns a proof that holds.
func Prove(y Yard) (Proof, api.Errno) {
	if e := Check(y); e != api.OK {
		return Proof{}, e
	}
	w := workWithAll(y)
	if w.fill() {
		return Proof{}, api.ErrNone
	}
	if w.gap() > 0 {
		return Proof{}, api.OK
	}
	s, _ := w.tooLittle()
	return w.proof(s), api.OK
}

// Proves returns by how much a proof holds.
func Proves(y Yard, p Proof) (int, api.Errno) {
	if e := Check(y); e != api.OK {
		return 0, e
	}
	switch {
	case !every(p.Cells, y.hasCell):
		return 0, api.ErrNot
	case !areInOrder(p.Cells):
		return 0, api.ErrOrder
	}
	n := workWithAll(y).surplus(p)
	if n < 1 {
		return 0, api.ErrNone
	}
	return n, api.OK
}
