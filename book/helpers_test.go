package book_test

import (
	"fmt"
	"math/rand/v2"
	"slices"
	"strconv"
	"strings"
	"testing"

	"staddle/api"
	"staddle/book"
)

func list(numbers ...int) []int { return numbers }

func row(numbers ...int) book.Row { return book.Row{Numbers: numbers} }

func struck(numbers ...int) book.Row { return book.Row{Numbers: numbers, Struck: true} }

func form(lines int, widths ...int) book.Form { return book.Form{Widths: widths, Lines: lines} }

func of(f book.Form, rows ...book.Row) book.Book { return book.Book{Form: f, Rows: rows} }

// sevens are so many rows of one column.
func sevens(n int) []book.Row {
	var rows []book.Row
	for range n {
		rows = append(rows, row(7))
	}
	return rows
}

// grain is the book of the chapter's examples.
func grain() book.Book { return of(form(2, 3, 2), row(12, 5), row(100, 40), struck(7, 0)) }

// grainText is its text.
const grainText = "  12| 5|k\n 100|40|r\n=  112|  45|\n+  112|  45|\n-  7| 0|j\n=  112|  45|\n"

// but returns the book of the chapter's examples, changed.
func but(change func(b *book.Book)) book.Book {
	b := grain()
	change(&b)
	return b
}

func copyForm(f book.Form) book.Form { return form(f.Lines, slices.Clone(f.Widths)...) }

func copyRow(r book.Row) book.Row {
	return book.Row{Numbers: slices.Clone(r.Numbers), Struck: r.Struck}
}

func copyBook(b book.Book) book.Book {
	same := book.Book{Form: copyForm(b.Form)}
	for _, r := range b.Rows {
		same.Rows = append(same.Rows, copyRow(r))
	}
	return same
}

func sameForm(a, b book.Form) bool { return slices.Equal(a.Widths, b.Widths) && a.Lines == b.Lines }

func sameRow(a, b book.Row) bool { return slices.Equal(a.Numbers, b.Numbers) && a.Struck == b.Struck }

func sameBook(a, b book.Book) bool {
	return sameForm(a.Form, b.Form) && slices.EqualFunc(a.Rows, b.Rows, sameRow)
}

// isZero says whether a book is the one that comes with an error.
func isZero(b book.Book) bool { return sameBook(b, book.Book{}) }

func sameLists(a, b [][]int) bool { return slices.EqualFunc(a, b, slices.Equal[[]int]) }

// letterOf is the check letter of a row, by the words of the chapter.
func letterOf(f book.Form, r book.Row) string {
	figures := ""
	for column, n := range r.Numbers {
		figures += fmt.Sprintf("%*d", f.Widths[column], n)
	}
	index := 0
	for k, c := range figures {
		if c != ' ' {
			index += (k + 1) * int(c-'0')
		}
	}
	if r.Struck {
		index += 11
	}
	return fmt.Sprintf("%c", 'a'+index%23)
}

// lineOf is the line of a row, by the words of the chapter.
func lineOf(f book.Form, r book.Row) string {
	line := " "
	if r.Struck {
		line = "-"
	}
	for column, n := range r.Numbers {
		line += fmt.Sprintf("%*d|", f.Widths[column], n)
	}
	return line + letterOf(f, r) + "\n"
}

// sumOf is the sum of all rows of a column before one of them.
func sumOf(b book.Book, column, until int) int {
	sum := 0
	for _, r := range b.Rows[:until] {
		if !r.Struck {
			sum += r.Numbers[column]
		}
	}
	return sum
}

// sumsLine is a line with the sums of all rows before one of them, by the words of the chapter.
func sumsLine(mark string, b book.Book, until int) string {
	line := mark
	for column, width := range b.Form.Widths {
		line += fmt.Sprintf("%*d|", width+2, sumOf(b, column, until))
	}
	return line + "\n"
}

// printed is the text of a book, by the words of the chapter.
func printed(b book.Book) string {
	text := ""
	for k, r := range b.Rows {
		if k > 0 && k%b.Form.Lines == 0 {
			text += sumsLine("=", b, k) + sumsLine("+", b, k)
		}
		text += lineOf(b.Form, r)
	}
	return text + sumsLine("=", b, len(b.Rows))
}

// lenient is the row of a line that should have the fields of one; what is not a number is 0.
func lenient(f book.Form, line string) book.Row {
	r := book.Row{Struck: strings.HasPrefix(line, "-")}
	fields := strings.Split(strings.TrimLeft(line, " -"), "|")
	for column := range f.Widths {
		n := 0
		if column < len(fields) {
			n, _ = strconv.Atoi(strings.TrimSpace(fields[column]))
		}
		r.Numbers = append(r.Numbers, n)
	}
	return r
}

// rowsOf are the rows of all whole lines that should be those of rows.
func rowsOf(f book.Form, text string) book.Book {
	b := book.Book{Form: f}
	for line := range strings.Lines(text) {
		if strings.HasSuffix(line, "\n") && (line[0] == ' ' || line[0] == '-') {
			b.Rows = append(b.Rows, lenient(f, line))
		}
	}
	return b
}

// isBook says whether a book is allowed, by the words of the chapter; its form is.
func isBook(b book.Book) bool {
	if len(b.Rows) > 12 {
		return false
	}
	for _, r := range b.Rows {
		if len(r.Numbers) != len(b.Form.Widths) {
			return false
		}
		for column, n := range r.Numbers {
			if n < 0 || len(strconv.Itoa(n)) > b.Form.Widths[column] {
				return false
			}
		}
	}
	return true
}

// isRight says whether a text is that of a book: the book can only be that of its rows.
func isRight(f book.Form, text string) bool {
	b := rowsOf(f, text)
	return isBook(b) && printed(b) == text
}

// someForm is a form with up to so many columns of up to some width, and so many lines on a page.
func someForm(r *rand.Rand, columns, width, lines int) book.Form {
	f := form(1 + r.IntN(lines))
	for range 1 + r.IntN(columns) {
		f.Widths = append(f.Widths, 1+r.IntN(width))
	}
	return f
}

// someRow is a row of a form, some of which are struck.
func someRow(r *rand.Rand, f book.Form) book.Row {
	made := book.Row{Struck: r.IntN(4) == 0}
	for _, width := range f.Widths {
		limit := 1
		for range 1 + r.IntN(width) {
			limit *= 10
		}
		made.Numbers = append(made.Numbers, r.IntN(limit))
	}
	return made
}

// someBook is a book of a form with up to so many rows.
func someBook(r *rand.Rand, f book.Form, rows int) book.Book {
	b := book.Book{Form: f}
	for range r.IntN(rows + 1) {
		b.Rows = append(b.Rows, someRow(r, f))
	}
	return b
}

// thinBook is a book of one column.
func thinBook(r *rand.Rand) book.Book { return someBook(r, someForm(r, 1, 2, 3), 5) }

// plainBook is a book of any form with a few rows.
func plainBook(r *rand.Rand) book.Book { return someBook(r, someForm(r, 4, 4, 6), 7) }

// longBook is a book with as many rows as can be.
func longBook(r *rand.Rand) book.Book {
	b := book.Book{Form: someForm(r, 4, 4, 6)}
	for range book.MaxRows {
		b.Rows = append(b.Rows, someRow(r, b.Form))
	}
	return b
}

// wholePages is a book the last page of which is full.
func wholePages(r *rand.Rand) book.Book {
	b := book.Book{Form: someForm(r, 3, 3, 3)}
	for range b.Form.Lines * (1 + r.IntN(3)) {
		b.Rows = append(b.Rows, someRow(r, b.Form))
	}
	return b
}

// trials asks of so many books of each kind, and of their texts by the words of the chapter.
func trials(t *testing.T, n int, ask func(r *rand.Rand, b book.Book, text string)) {
	t.Helper()
	r := rand.New(rand.NewPCG(11, 32))
	for _, make := range []func(r *rand.Rand) book.Book{thinBook, plainBook, longBook, wholePages} {
		for range n {
			b := make(r)
			if e := book.Check(b); e != api.OK {
				t.Fatal(b, "is not allowed:", e)
			}
			ask(r, b, printed(b))
		}
	}
}

// known are all bytes that are in texts.
const known = "\n +-0123456789=abcdefghijklmnopqrstuvw|"

// with is a text with another byte.
func with(text string, at int, c byte) string { return text[:at] + string([]byte{c}) + text[at+1:] }

// torn is a text with some torn bytes.
func torn(text string, bytes ...int) string {
	for _, at := range bytes {
		text = with(text, at, '?')
	}
	return text
}

// some are so many numbers below n, none of them twice, in any order.
func some(r *rand.Rand, count, n int) []int { return r.Perm(n)[:min(count, n)] }
