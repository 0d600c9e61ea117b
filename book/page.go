package book

import (
	"slices"

	"staddle/api"
)

// sums is a sum for each column.
type sums [MaxColumns]int

// worth returns what a row counts in sums.
func (r Row) worth() sums {
	var worth sums
	if !r.Struck {
		copy(worth[:], r.Numbers)
	}
	return worth
}

// with returns sums in which a row is counted, too.
func (s sums) with(r Row) sums {
	worth := r.worth()
	if worth == (sums{}) {
		return s
	}
	for column := range len(s) {
		s[column] += worth[column]
	}
	return s
}

// pages returns the rows of each page.
func (b Book) pages() [][]Row {
	if len(b.Rows) == 0 {
		return [][]Row{nil}
	}
	return slices.Collect(slices.Chunk(b.Rows, b.Form.Lines))
}

// foots returns the sums at the foot of each page.
func (b Book) foots() []sums {
	var foots []sums
	var total sums
	for _, page := range b.pages() {
		for _, r := range page {
			total = total.with(r)
		}
		foots = append(foots, total)
	}
	return foots
}

// Foots returns the sums at the feet of all pages.
func Foots(b Book) ([][]int, api.Errno) {
	if e := Check(b); e != api.OK {
		return nil, e
	}
	var all [][]int
	for _, foot := range b.foots() {
		all = append(all, slices.Clone(foot[:len(b.Form.Widths)]))
	}
	return all, api.OK
}

// Print returns the text of a book.
func Print(b Book) (string, api.Errno) {
	if e := Check(b); e != api.OK {
		return "", e
	}
	text := ""
	foots := b.foots()
	for i, page := range b.pages() {
		if i > 0 {
			text += b.Form.sumLine(markCarry, foots[i-1])
		}
		for _, r := range page {
			text += b.Form.rowLine(r)
		}
		text += b.Form.sumLine(markFoot, foots[i])
	}
	return text, api.OK
}
