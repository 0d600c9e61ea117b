package rod

import (
	"slices"

	"staddle/api"
)

// Blind returns the cells that no rod reaches.
func Blind(b Bin) ([]Cell, api.Errno) {
	if e := Check(b); e != api.OK {
		return nil, e
	}
	return b.cellsThat(func(c Cell) bool {
		return every(b.Rods, func(r Rod) bool { return distance(c, r.Tip) > r.Range })
	}), api.OK
}

// bare returns a bin of so many columns and rows, without rods: ErrMany, then the error of the Range.
func bare(cols, rows, reach int) (Bin, api.Errno) {
	b := Bin{Cols: cols, Rows: rows}
	if e := Check(b); e != api.OK {
		return Bin{}, e
	}
	return b, checkReach(reach)
}

// tips returns for each cell the tips from which a rod reaches it.
func (b Bin) tips(reach int) [][]Cell {
	var all [][]Cell
	for c := range b.eachCell() {
		all = append(all, b.cellsThat(func(tip Cell) bool { return distance(c, tip) <= reach }))
	}
	return all
}

// Cover returns as few tips as can be that reach all cells.
func Cover(cols, rows, reach int) ([]Cell, api.Errno) {
	b, e := bare(cols, rows, reach)
	if e != api.OK {
		return nil, e
	}
	return b.inOrder(fewest(b.tips(reach))), api.OK
}

// Scattered returns as many cells as can be of which no rod reaches two.
func Scattered(cols, rows, reach int) ([]Cell, api.Errno) {
	b, e := bare(cols, rows, reach)
	if e != api.OK {
		return nil, e
	}
	far := scattered(b.tips(reach))
	return b.cellsThat(func(c Cell) bool { return slices.Contains(far, b.index(c)) }), api.OK
}
