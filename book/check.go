package book

import "staddle/api"

// CheckForm returns the error of a form.
func CheckForm(f Form) api.Errno {
	switch {
	case !within(len(f.Widths), 1, MaxColumns):
		return api.ErrMany
	case !every(f.Widths, isWidth), !within(f.Lines, 1, MaxLines):
		return api.ErrRange
	}
	return api.OK
}

func isWidth(width int) bool { return within(width, 1, MaxWidth) }

// Check returns the error of a book.
func Check(b Book) api.Errno {
	if e := CheckForm(b.Form); e != api.OK {
		return e
	}
	if len(b.Rows) > MaxRows {
		return api.ErrMany
	}
	for _, r := range b.Rows {
		if e := b.Form.errorOfRow(r); e != api.OK {
			return e
		}
	}
	return api.OK
}

// errorOfRow returns the error of a row of some form.
func (f Form) errorOfRow(r Row) api.Errno {
	if len(r.Numbers) != len(f.Widths) {
		return api.ErrMany
	}
	for column := range len(f.Widths) {
		if !within(r.Numbers[column], 0, most(f.Widths[column])) {
			return api.ErrRange
		}
	}
	return api.OK
}

// most returns the greatest number that has so many digits.
func most(digits int) int {
	n := 0
	for range digits {
		n = 10*n + 9
	}
	return n
}

func (b Book) hasRow(row int) bool { return within(row, 0, len(b.Rows)-1) }

// errorOfStriking returns the error of a book, a row of which is to be struck.
func (b Book) errorOfStriking(row int) api.Errno {
	if e := Check(b); e != api.OK {
		return e
	}
	switch {
	case !b.hasRow(row):
		return api.ErrNot
	case b.Rows[row].Struck:
		return api.ErrTwice
	}
	return api.OK
}

func isLong(text string) bool { return len(text) > api.MaxBytes }

// errorOfTorn returns the error of a form, or of a torn text.
func (f Form) errorOfTorn(text string) api.Errno {
	if e := CheckForm(f); e != api.OK {
		return e
	}
	switch {
	case isLong(text):
		return api.ErrLong
	case tornBytes(text) > MaxTorn:
		return api.ErrFull
	}
	return api.OK
}

// tornBytes returns how many bytes of a text are torn. No rune but a torn byte has this byte in it.
func tornBytes(text string) int {
	n := 0
	for _, c := range text {
		if c == Torn {
			n++
		}
	}
	return n
}
