package rod

import (
	"iter"
	"slices"

	"staddle/api"
)

// binAtWork is a bin with those of its rods that count, and the greatest heats that they leave.
type binAtWork struct {
	Bin
	counts func(rod int) bool
	most   field
}

// work begins to work on a bin of which some rods count.
func work(b Bin, counts func(rod int) bool) *binAtWork {
	w := &binAtWork{Bin: b, counts: counts}
	var hot field
	for c := range w.eachCell() {
		hot[w.index(c)] = MaxHeat
	}
	w.most = w.cut(hot)
	return w
}

// workWithAll begins to work on a bin all of whose rods count.
func workWithAll(b Bin) *binAtWork { return work(b, b.hasRod) }

// agreed returns a bin at work all of whose rods agree: the errors of Check, then ErrClash.
func agreed(b Bin) (*binAtWork, api.Errno) {
	if e := Check(b); e != api.OK {
		return nil, e
	}
	w := workWithAll(b)
	if !w.agree() {
		return nil, api.ErrClash
	}
	return w, api.OK
}

// counted yields the rods that count, each with its number.
func (w *binAtWork) counted() iter.Seq2[int, Rod] {
	return func(yield func(int, Rod) bool) {
		for k, r := range w.Rods {
			if w.counts(k) && !yield(k, r) {
				return
			}
		}
	}
}

// cut returns heats without what is too hot for a rod.
func (w *binAtWork) cut(f field) field {
	for _, r := range w.counted() {
		for c, far := range w.reached(r.Tip, r.Range) {
			i := w.index(c)
			f[i] = min(f[i], r.Shows+far)
		}
	}
	return f
}

// fit reports whether heats do: nothing is cut off from them, so that no rod feels more than it shows, and none feels less.
func (w *binAtWork) fit(f field) bool {
	if w.cut(f) != f {
		return false
	}
	for _, r := range w.counted() {
		if w.feels(f, r.Tip, r.Range) < r.Shows {
			return false
		}
	}
	return true
}

// agree reports whether the rods that count do. If any heats fit, the greatest ones do, too: no rod feels less of them.
func (w *binAtWork) agree() bool { return w.fit(w.most) }

// telling returns the rods that show more than 0, so that a cell must explain them.
func (w *binAtWork) telling() []int {
	var rods []int
	for k, r := range w.counted() {
		if r.Shows > 0 {
			rods = append(rods, k)
		}
	}
	return rods
}

// explained returns which rods each cell explains. No heat is above the greatest one, so that this one alone can do it.
func (w *binAtWork) explained() map[Cell][]int {
	rods := map[Cell][]int{}
	for _, k := range w.telling() {
		r := w.Rods[k]
		for c, far := range w.reached(r.Tip, r.Range) {
			if w.most[w.index(c)] == r.Shows+far {
				rods[c] = append(rods[c], k)
			}
		}
	}
	return rods
}

// explainers returns for each of the rods that are telling the cells that explain it, in their order.
func (w *binAtWork) explainers() [][]Cell {
	rods := w.explained()
	var all [][]Cell
	for _, k := range w.telling() {
		all = append(all, w.cellsThat(func(c Cell) bool { return slices.Contains(rods[c], k) }))
	}
	return all
}

// least returns the least heats. A cell that alone explains a rod keeps its greatest heat; any other can have 0, as
// all others with their greatest heats explain all rods without it.
func (w *binAtWork) least() field {
	var f field
	for _, cells := range w.explainers() {
		if len(cells) == 1 {
			i := w.index(cells[0])
			f[i] = w.most[i]
		}
	}
	return f
}
