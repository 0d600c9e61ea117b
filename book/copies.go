package book

import (
	"slices"

	"staddle/api"
)

// merged returns the byte of two copies that have these bytes.
func merged(one, other byte) byte {
	switch {
	case one == other, other == Torn:
		return one
	case one == Torn:
		return other
	}
	return Torn
}

// Merge returns a torn text of two copies.
func Merge(a, b string) (string, api.Errno) {
	switch {
	case isLong(a), isLong(b):
		return "", api.ErrLong
	case len(a) != len(b):
		return "", api.ErrMany
	}
	torn := []byte(a)
	for at := range torn {
		torn[at] = merged(a[at], b[at])
	}
	return string(torn), api.OK
}

func (f Form) isSame(other Form) bool {
	return slices.Equal(f.Widths, other.Widths) && f.Lines == other.Lines
}

func (r Row) isSame(other Row) bool {
	return slices.Equal(r.Numbers, other.Numbers) && r.Struck == other.Struck
}

// Differ returns the numbers of the rows in which two books differ.
func Differ(a, b Book) ([]int, api.Errno) {
	for _, book := range []Book{a, b} {
		if e := Check(book); e != api.OK {
			return nil, e
		}
	}
	if !a.Form.isSame(b.Form) {
		return nil, api.ErrClash
	}
	inBoth := both(a.hasRow, b.hasRow)
	return below(greatest(len(a.Rows), len(b.Rows)), func(row int) bool {
		return !inBoth(row) || !a.Rows[row].isSame(b.Rows[row])
	}), api.OK
}
