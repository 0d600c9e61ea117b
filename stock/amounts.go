package stock

import "staddle/api"

// contentsOf returns for each bin its contents at each time.
func (y Yard) contentsOf(a Amounts) [][]int {
	rows := make([][]int, len(y.Bins))
	for bin := range rows {
		rows[bin] = make([]int, y.Days+1)
		rows[bin][0] = a.First[bin]
		for day := range y.Days {
			rows[bin][day+1] = rows[bin][day] + y.gain(a, Cell{Bin: bin, Day: day})
		}
	}
	return rows
}

// gain returns by how many sacks the contents of a bin grow on a day.
func (y Yard) gain(a Amounts, c Cell) int {
	sacks := 0
	for i, m := range y.Moves {
		if c == (Cell{Bin: m.To, Day: m.Day}) {
			sacks += a.Moved[i]
		}
		if c == (Cell{Bin: m.From, Day: m.Day}) {
			sacks -= a.Moved[i]
		}
	}
	return sacks
}

// fit reports whether amounts do. What a bin has at first is its contents at time 0.
func (w *yardAtWork) fit(a Amounts) bool {
	for bin, row := range w.contentsOf(a) {
		for time, n := range row {
			if !isIn(n, w.bounds(bin, time)) {
				return false
			}
		}
	}
	for i, m := range w.Moves {
		if !isIn(a.Moved[i], m.Sacks) {
			return false
		}
	}
	return true
}

// amounts returns what goes in the flows of a yard that is filled.
func (w *yardAtWork) amounts() Amounts {
	var a Amounts
	for bin := range w.Bins {
		a.First = append(a.First, w.flows[w.contents(bin, 0)].sacks)
	}
	for move := range w.Moves {
		a.Moved = append(a.Moved, w.flows[move].sacks)
	}
	return a
}

// Contents returns for each bin its contents at each time.
func Contents(y Yard, a Amounts) ([][]int, api.Errno) {
	if e := checkAmounts(y, a); e != api.OK {
		return nil, e
	}
	return y.contentsOf(a), api.OK
}

// Fits reports whether amounts fit.
func Fits(y Yard, a Amounts) (bool, api.Errno) {
	if e := checkAmounts(y, a); e != api.OK {
		return false, e
	}
	return workWithAll(y).fit(a), api.OK
}

// Some returns amounts that fit.
func Some(y Yard) (Amounts, api.Errno) {
	w, e := filled(y)
	if e != api.OK {
		return Amounts{}, e
	}
	return w.amounts(), api.OK
}

// Shown returns amounts that fit in which a bin has a number of sacks at a time.
func Shown(y Yard, bin, day, sacks int) (Amounts, api.Errno) {
	if e := checkWith(y, bin, y.hasBin); e != api.OK {
		return Amounts{}, e
	}
	if !y.hasTime(day) {
		return Amounts{}, api.ErrNot
	}
	w := workWithAll(y)
	f := &w.flows[w.contents(bin, day)]
	f.bounds = meet(f.bounds, api.Span{Lo: sacks, Hi: sacks})
	if !w.fill() {
		return Amounts{}, api.ErrNone
	}
	return w.amounts(), api.OK
}
