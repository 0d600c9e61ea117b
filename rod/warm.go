package rod

import (
	"slices"

	"staddle/api"
)

// Explains returns the rods that a cell explains.
func Explains(b Bin, c Cell) ([]int, api.Errno) {
	if e := Check(b); e != api.OK {
		return nil, e
	}
	if !b.hasCell(c) {
		return nil, api.ErrNot
	}
	w, e := agreed(b)
	if e != api.OK {
		return nil, e
	}
	return w.explained()[c], api.OK
}

// Fewest returns as few warm cells as can be.
func Fewest(b Bin) ([]Cell, api.Errno) {
	w, e := agreed(b)
	if e != api.OK {
		return nil, e
	}
	return w.inOrder(fewest(w.explainers())), api.OK
}

// inOrder returns the same cells in their order.
func (b Bin) inOrder(cells []Cell) []Cell {
	return b.cellsThat(func(c Cell) bool { return slices.Contains(cells, c) })
}

// Lay returns the heats in which listed cells have the greatest heat, and all others none.
func Lay(b Bin, warm []Cell) ([]int, api.Errno) {
	if e := Check(b); e != api.OK {
		return nil, e
	}
	switch {
	case !every(warm, b.hasCell):
		return nil, api.ErrNot
	case hasTwice(warm):
		return nil, api.ErrTwice
	}
	w, e := agreed(b)
	if e != api.OK {
		return nil, e
	}
	var f field
	for _, c := range warm {
		f[w.index(c)] = w.most[w.index(c)]
	}
	if !w.fit(f) {
		return nil, api.ErrWrong
	}
	return w.heats(f), api.OK
}

// Apart returns as many rods as can be any two of which are apart.
func Apart(b Bin) ([]int, api.Errno) {
	w, e := agreed(b)
	if e != api.OK {
		return nil, e
	}
	rods := w.telling()
	var list []int
	for _, i := range scattered(w.explainers()) {
		list = append(list, rods[i])
	}
	return list, api.OK
}

// cellsWith returns the cells of a bin whose least and greatest heats are as they are asked to be.
func cellsWith(b Bin, are func(least, most int) bool) ([]Cell, api.Errno) {
	w, e := agreed(b)
	if e != api.OK {
		return nil, e
	}
	least := w.least()
	return w.cellsThat(func(c Cell) bool { return are(least[w.index(c)], w.most[w.index(c)]) }), api.OK
}

// Warm returns the cells that are surely warm.
func Warm(b Bin) ([]Cell, api.Errno) {
	return cellsWith(b, func(least, most int) bool { return least > 0 })
}

// Open returns the cells that are open.
func Open(b Bin) ([]Cell, api.Errno) {
	return cellsWith(b, func(least, most int) bool { return least == 0 && most > 0 })
}
