package rod

import (
	"slices"

	"staddle/api"
)

// field is the heats of a bin, in the order of its cells.
type field [MaxSide * MaxSide]int

// fieldOf returns listed heats as a field.
func fieldOf(heats []int) field {
	var f field
	copy(f[:], heats)
	return f
}

// heats returns those of a field that are of cells of the bin.
func (b Bin) heats(f field) []int { return slices.Clone(f[:b.Cols*b.Rows]) }

// feels returns what a rod feels.
func (b Bin) feels(f field, tip Cell, reach int) int {
	var felt []int
	for c, far := range b.reached(tip, reach) {
		felt = append(felt, f[b.index(c)]-far)
	}
	return greatest(0, felt...)
}

// Feels returns what a rod feels.
func Feels(b Bin, heats []int, tip Cell, reach int) (int, api.Errno) {
	if e := checkHeats(b, heats); e != api.OK {
		return 0, e
	}
	if e := checkTip(b, tip, reach); e != api.OK {
		return 0, e
	}
	return b.feels(fieldOf(heats), tip, reach), api.OK
}

// Fits reports whether heats fit.
func Fits(b Bin, heats []int) (bool, api.Errno) {
	if e := checkHeats(b, heats); e != api.OK {
		return false, e
	}
	return workWithAll(b).fit(fieldOf(heats)), api.OK
}

// Most returns the greatest heats.
func Most(b Bin) ([]int, api.Errno) {
	w, e := agreed(b)
	if e != api.OK {
		return nil, e
	}
	return w.heats(w.most), api.OK
}

// Least returns the least heats.
func Least(b Bin) ([]int, api.Errno) {
	w, e := agreed(b)
	if e != api.OK {
		return nil, e
	}
	return w.heats(w.least()), api.OK
}
