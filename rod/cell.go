package rod

import "iter"

// eachCell yields the cells of a bin, in their order.
func (b Bin) eachCell() iter.Seq[Cell] {
	return func(yield func(Cell) bool) {
		for row := range b.Rows {
			for col := range b.Cols {
				if !yield(Cell{Col: col, Row: row}) {
					return
				}
			}
		}
	}
}

// reached yields the cells that a rod reaches, in their order, each with its distance.
func (b Bin) reached(tip Cell, reach int) iter.Seq2[Cell, int] {
	return func(yield func(Cell, int) bool) {
		for c := range b.eachCell() {
			if far := distance(c, tip); far <= reach && !yield(c, far) {
				return
			}
		}
	}
}

// cellsThat returns the cells of a bin that are as they are asked to be, in their order.
func (b Bin) cellsThat(are func(Cell) bool) []Cell {
	var all []Cell
	for c := range b.eachCell() {
		if are(c) {
			all = append(all, c)
		}
	}
	return all
}

// index returns the number of a cell in the order of cells.
func (b Bin) index(c Cell) int { return c.Row*b.Cols + c.Col }

func distance(a, b Cell) int { return gap(a.Col, b.Col) + gap(a.Row, b.Row) }

// gap returns the difference of two numbers, without its sign.
func gap(m, n int) int { return max(m-n, n-m) }
