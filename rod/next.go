package rod

import "staddle/api"

// leaves returns the least and the greatest number that a tip leaves. The rod must feel what explains another one: of any
// cells that do, it can be those of which it feels least, as all others can be cooler.
func (w *binAtWork) leaves(tip Cell, reach int) api.Span {
	s := api.Span{Hi: w.feels(w.most, tip, reach)}
	for _, cells := range w.explainers() {
		s.Lo = greatest(s.Lo, w.feelsOfOne(cells, tip, reach))
	}
	return s
}

// feelsOfOne returns the least that a rod feels if one of some cells has its greatest heat.
func (w *binAtWork) feelsOfOne(cells []Cell, tip Cell, reach int) int {
	least := MaxHeat
	for _, c := range cells {
		var f field
		f[w.index(c)] = w.most[w.index(c)]
		least = min(least, w.feels(f, tip, reach))
	}
	return least
}

// Leaves returns the least and the greatest number that a tip leaves.
func Leaves(b Bin, tip Cell, reach int) (api.Span, api.Errno) {
	if e := Check(b); e != api.OK {
		return api.Span{}, e
	}
	if e := checkTip(b, tip, reach); e != api.OK {
		return api.Span{}, e
	}
	w, e := agreed(b)
	if e != api.OK {
		return api.Span{}, e
	}
	return w.leaves(tip, reach), api.OK
}

// Next returns the tip that leaves the most.
func Next(b Bin, reach int) (Cell, api.Errno) {
	if e := Check(b); e != api.OK {
		return Cell{}, e
	}
	if e := checkReach(reach); e != api.OK {
		return Cell{}, e
	}
	w, e := agreed(b)
	if e != api.OK {
		return Cell{}, e
	}
	var best Cell
	most := 0
	for tip := range w.eachCell() {
		if s := w.leaves(tip, reach); s.Hi-s.Lo > most {
			best, most = tip, s.Hi-s.Lo
		}
	}
	if most == 0 {
		return Cell{}, api.ErrNone
	}
	return best, api.OK
}
