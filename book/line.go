package book

import (
	"strconv"
	"strings"

	"staddle/api"
)

// The marks with which lines begin.
const (
	markRow    = ' '
	markStruck = '-'
	markFoot   = '='
	markCarry  = '+'
)

// letters are the check letters, and ofStruck is what a struck row adds to their index.
const (
	letters  = "abcdefghijklmnopqrstuvw"
	ofStruck = 11
)

// widerSums is how much wider the fields of sums are than their columns: no sum of MaxRows numbers needs more.
const widerSums = 2

// end is what stands behind each field.
const end = "|"

// field returns a number in a field of some width.
func field(n, width int) string {
	digits := strconv.Itoa(n)
	return strings.Repeat(" ", width-len(digits)) + digits
}

// fields returns a number for each column in fields that are so much wider than the columns, each with its end.
func (f Form) fields(numbers []int, wider int) string {
	text := ""
	for column := range len(f.Widths) {
		text += field(numbers[column], f.Widths[column]+wider) + end
	}
	return text
}

// letter returns the check letter of a row.
func (f Form) letter(r Row) string {
	worth := 0
	if r.Struck {
		worth = ofStruck
	}
	figures := strings.ReplaceAll(f.fields(r.Numbers, 0), end, "")
	for i := range len(figures) {
		if figures[i] != ' ' {
			worth += (i + 1) * int(figures[i]-'0')
		}
	}
	return string(letters[worth%len(letters)])
}

// mark returns the mark of the line of a row.
func (r Row) mark() byte {
	if r.Struck {
		return markStruck
	}
	return markRow
}

// isOfRow reports whether a line that has begun is that of a row.
func isOfRow(line string) bool { return line[0] == markRow || line[0] == markStruck }

// rowLine returns the line of a row.
func (f Form) rowLine(r Row) string {
	return string(r.mark()) + f.fields(r.Numbers, 0) + f.letter(r) + "\n"
}

// sumLine returns a line with sums.
func (f Form) sumLine(mark byte, total sums) string {
	return string(mark) + f.fields(total[:], widerSums) + "\n"
}

// rowOf returns the row of a line all fields of which are there.
func (f Form) rowOf(line string) Row {
	r := Row{Struck: line[0] == markStruck}
	fields := strings.Split(line[1:], end)
	for column := range len(f.Widths) {
		n, _ := strconv.Atoi(strings.TrimLeft(fields[column], " "))
		r.Numbers = append(r.Numbers, n)
	}
	return r
}

// Letter returns the check letter of a row.
func Letter(f Form, r Row) (string, api.Errno) {
	if e := CheckForm(f); e != api.OK {
		return "", e
	}
	if e := f.errorOfRow(r); e != api.OK {
		return "", e
	}
	return f.letter(r), api.OK
}
