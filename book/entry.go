package book

import (
	"slices"

	"staddle/api"
)

// copied returns the same row in memory of its own.
func (r Row) copied() Row { return Row{Numbers: slices.Clone(r.Numbers), Struck: r.Struck} }

// copied returns the same book in memory of its own.
func (b Book) copied() Book { return Book{Form: b.Form.copied(), Rows: each(b.Rows, Row.copied)} }

// struck returns the book in which a row is struck.
func (b Book) struck(row int) Book {
	b = b.copied()
	b.Rows[row].Struck = true
	return b
}

// Put returns a book with one row more.
func Put(b Book, r Row) (Book, api.Errno) {
	if e := Check(b); e != api.OK {
		return Book{}, e
	}
	if len(b.Rows) == MaxRows {
		return Book{}, api.ErrFull
	}
	if e := b.Form.errorOfRow(r); e != api.OK {
		return Book{}, e
	}
	more := b.copied()
	more.Rows = withOneMore(more.Rows, r.copied())
	return more, api.OK
}

// Strike returns a book in which a row is struck.
func Strike(b Book, row int) (Book, api.Errno) {
	if e := b.errorOfStriking(row); e != api.OK {
		return Book{}, e
	}
	return b.struck(row), api.OK
}

// Correct returns a book in which a row is struck, and another one put at the end.
func Correct(b Book, row int, r Row) (Book, api.Errno) {
	if e := b.errorOfStriking(row); e != api.OK {
		return Book{}, e
	}
	return Put(b.struck(row), r)
}
