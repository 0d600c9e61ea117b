package book

import (
	"iter"
	"slices"
	"strings"

	"staddle/api"
)

// read is what was read of a text until now. It is zero at the beginning alone, as each line that ended has a mark.
type read struct {
	rows  int
	total sums
	last  byte   // the mark of the last line that ended
	line  string // what was read of the line that has not ended
	rest  string // the rest of this line, if it has sums, all of which the rows before tell
}

// reader reads texts of a form, the bytes of which are right as long as some right text begins with them.
type reader struct {
	Form
	until read
}

// next yields the bytes with which what was read can go on, in their order. For any of them there is a right text that does, as
// each row that has begun can be ended in some way.
func (r reader) next() iter.Seq[byte] {
	return func(yield func(c byte) bool) {
		for _, c := range []byte(r.choice()) {
			if !yield(c) {
				return
			}
		}
	}
}

// choice returns the bytes with which what was read can go on.
func (r reader) choice() string {
	switch {
	case r.until.line == "":
		return r.marks()
	case r.until.rest != "":
		return r.until.rest[:1]
	}
	return r.inRow(r.until.line[1:])
}

// marks returns the marks with which the next line can begin.
func (r reader) marks() string {
	begun := r.until.rows > 0
	endsPage := r.until.rows%r.Lines == 0
	endsBook := r.until.rows == MaxRows
	switch {
	case r.until == (read{}):
		return " -="
	case r.until.last == markCarry:
		return " -"
	case r.until.last == markFoot && begun && endsPage && !endsBook:
		return "+"
	case r.until.last == markFoot:
		return ""
	case endsPage, endsBook:
		return "="
	}
	return " -="
}

// inRow returns the bytes with which the line of a row can go on, of which some bytes behind the mark were read.
func (r reader) inRow(some string) string {
	for column := range len(r.Widths) {
		width := r.Widths[column]
		switch {
		case len(some) < width:
			return inField(some, width)
		case len(some) == width:
			return end
		}
		some = some[width+len(end):]
	}
	if some == "" {
		return r.letter(r.rowOf(r.until.line))
	}
	return "\n"
}

// inField returns the bytes with which a field can go on that has a beginning.
func inField(beginning string, width int) string {
	hasDigit := strings.TrimLeft(beginning, " ") != ""
	if hasDigit || len(beginning) == width-1 {
		return "0123456789"
	}
	return " 123456789"
}

// after returns the reader that has read one right byte more.
func (r reader) after(c byte) reader {
	switch {
	case c == '\n':
		return r.afterLine()
	case c == markFoot, c == markCarry:
		r.until.rest = r.sumLine(c, r.until.total)[1:]
	case r.until.rest != "":
		r.until.rest = r.until.rest[1:]
	}
	r.until.line += string(c)
	return r
}

// afterLine returns the reader that has read the end of a line.
func (r reader) afterLine() reader {
	line := r.until.line
	now := read{rows: r.until.rows, total: r.until.total, last: line[0]}
	if isOfRow(line) {
		now.rows++
		now.total = now.total.with(r.rowOf(line))
	}
	r.until = now
	return r
}

// isRight reports whether what was read is a right text.
func (r reader) isRight() bool { return r.until.line == "" && r.until.last == markFoot }

// read reads the bytes of a text that are right, and returns how many there are.
func (r reader) read(text string) (reader, int) {
	at := 0
search:
	for at < len(text) {
		for c := range r.next() {
			if c == text[at] {
				r = r.after(c)
				at++
				continue search
			}
		}
		break search
	}
	return r, at
}

// copied returns the same form in memory of its own.
func (f Form) copied() Form { return Form{Widths: slices.Clone(f.Widths), Lines: f.Lines} }

// bookOf returns the book of a right text.
func (f Form) bookOf(text string) Book {
	b := Book{Form: f.copied()}
	for line := range strings.Lines(text) {
		if isOfRow(line) {
			b.Rows = append(b.Rows, f.rowOf(line))
		}
	}
	return b
}

// Parse returns the book whose text it is, and the number of bytes, or an error and the index of a byte.
func Parse(f Form, text string) (Book, int, api.Errno) {
	if e := CheckForm(f); e != api.OK {
		return Book{}, 0, e
	}
	if isLong(text) {
		return Book{}, 0, api.ErrLong
	}
	r, n := reader{Form: f}.read(text)
	if n < len(text) || !r.isRight() {
		return Book{}, n, api.ErrForm
	}
	return f.bookOf(text), n, api.OK
}
