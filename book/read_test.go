package book_test

import (
	"math/rand/v2"
	"strings"
	"testing"

	"staddle/api"
	"staddle/book"
)

func TestParse(t *testing.T) {
	for _, x := range books {
		got, n, e := book.Parse(x.b.Form, x.text)
		if !sameBook(got, x.b) || n != len(x.text) || e != api.OK {
			t.Error("the book of", x.name, "is", got, n, e, "and should be", x.b)
		}
	}
	if len(grainText) != 69 {
		t.Error("the text of the example has", len(grainText), "bytes")
	}
}

func TestParseFindsTheFirstByteThatIsWrong(t *testing.T) {
	long := strings.Repeat(" ", api.MaxBytes)
	full := printed(of(form(6, 1), sevens(12)...))
	eleven := printed(of(form(5, 1), sevens(11)...))
	twelve := printed(of(form(5, 1), sevens(12)...))
	empty := "=    0|   0|\n"
	for _, x := range []struct {
		name string
		f    book.Form
		text string
		at   int
		e    api.Errno
	}{
		{"a wrong letter", form(2, 3, 2), with(grainText, 8, 'j'), 8, api.ErrForm}, {"a great letter", form(2, 3, 2), with(grainText, 8, 'K'), 8, api.ErrForm}, {"no byte", form(2, 3, 2), "", 0, api.ErrForm}, {"one mark", form(2, 3, 2), "-", 1, api.ErrForm},
		{"a page that was just begun", form(2, 3, 2), grainText[:34], 34, api.ErrForm}, {"sums that were carried", form(2, 3, 2), grainText[:46], 46, api.ErrForm}, {"no last line feed", form(2, 3, 2), grainText[:68], 68, api.ErrForm}, {"no foot", form(2, 3, 2), grainText[:56], 56, api.ErrForm}, {"a row that has not ended", form(2, 3, 2), grainText[:15], 15, api.ErrForm},
		{"a blank at the end", form(2, 3, 2), grainText + " ", 69, api.ErrForm}, {"a line feed at the end", form(2, 3, 2), grainText + "\n", 69, api.ErrForm}, {"a page after one that is not full", form(2, 3, 2), grainText + "+", 69, api.ErrForm}, {"the same once more", form(2, 3, 2), grainText + grainText, 69, api.ErrForm},
		{"a foot after a foot", form(2, 3, 2), grainText[:33] + "=", 33, api.ErrForm}, {"a row after a foot", form(2, 3, 2), grainText[:33] + " ", 33, api.ErrForm}, {"a page without rows", form(2, 3, 2), grainText[:46] + "=", 46, api.ErrForm}, {"sums carried twice", form(2, 3, 2), grainText[:46] + "+", 46, api.ErrForm},
		{"sums carried to the first page", form(2, 3, 2), "+    0|   0|\n", 0, api.ErrForm}, {"a page after one without rows", form(2, 3, 2), empty + "+", 13, api.ErrForm}, {"two feet without rows", form(2, 3, 2), empty + empty, 13, api.ErrForm},
		{"a needless zero", form(2, 3, 2), " 012| 5|k\n", 1, api.ErrForm}, {"a needless zero behind a blank", form(2, 3, 2), "  02| 5|k\n", 2, api.ErrForm}, {"two zeros", form(2, 3, 2), "  12|00|k\n", 5, api.ErrForm}, {"zero", form(2, 3, 2), "   0| 0|a\n", 10, api.ErrForm},
		{"no digit", form(2, 3, 2), "    | 5|k\n", 3, api.ErrForm}, {"no end of a field", form(2, 3, 2), "  12 5|k\n", 4, api.ErrForm}, {"a blank behind a digit", form(2, 3, 2), " 1 2| 5|k\n", 2, api.ErrForm}, {"a number that is too wide", form(2, 3, 2), " 1234", 4, api.ErrForm}, {"a field that ends too early", form(2, 3, 2), " 12|", 3, api.ErrForm},
		{"a blank before the line feed", form(2, 3, 2), with(grainText, 9, ' '), 9, api.ErrForm}, {"another line end", form(2, 3, 2), with(grainText, 9, '\r'), 9, api.ErrForm}, {"another mark", form(2, 3, 2), with(grainText, 0, '*'), 0, api.ErrForm}, {"a row that is struck", form(2, 3, 2), with(grainText, 0, '-'), 8, api.ErrForm}, {"a row that is not struck", form(2, 3, 2), with(grainText, 46, ' '), 54, api.ErrForm},
		{"a first page without foot", form(2, 3, 2), grainText[:20] + grainText[33:], 20, api.ErrForm}, {"a third row on a page", form(2, 3, 2), grainText[:20] + grainText[:10], 20, api.ErrForm}, {"a wrong sum", form(2, 3, 2), with(grainText, 25, '3'), 25, api.ErrForm}, {"a wrong sum of the last column", form(2, 3, 2), with(grainText, 29, '3'), 29, api.ErrForm}, {"wrong sums that are carried", form(2, 3, 2), with(grainText, 37, '2'), 37, api.ErrForm}, {"a struck row that counts", form(2, 3, 2), with(grainText, 61, '9'), 61, api.ErrForm},
		{"pages of three rows", form(3, 3, 2), grainText, 33, api.ErrForm}, {"pages of one row", form(1, 3, 2), grainText, 10, api.ErrForm}, {"a column less", form(2, 3), grainText, 5, api.ErrForm}, {"a column more", form(2, 3, 2, 1), grainText, 8, api.ErrForm}, {"a wider column", form(2, 4, 2), grainText, 4, api.ErrForm}, {"a narrow column", form(2, 2, 2), grainText, 3, api.ErrForm},
		{"a thirteenth row", form(6, 1), full + "+", len(full), api.ErrForm}, {"a thirteenth row on the last page", form(5, 1), twelve[:len(twelve)-6] + " 7|h\n", len(twelve) - 6, api.ErrForm}, {"a twelfth row", form(5, 1), eleven[:len(eleven)-6] + " 7|h\n", len(eleven) - 1, api.ErrForm}, {"a page after the twelfth row", form(5, 1), twelve + "+", len(twelve), api.ErrForm},
		{"a torn byte", form(2, 3, 2), "?", 0, api.ErrForm}, {"a torn byte in the text", form(2, 3, 2), torn(grainText, 3), 3, api.ErrForm}, {"a byte of nothing", form(2, 3, 2), "\x00", 0, api.ErrForm}, {"a rune of two bytes", form(2, 3, 2), " é12| 5|k\n", 1, api.ErrForm}, {"a blank of two bytes", form(2, 3, 2), "\u0120 12| 5|k\n", 0, api.ErrForm}, {"a byte of no rune", form(2, 3, 2), "  12|\xff5|k\n", 5, api.ErrForm}, {"a byte of no rune at the end", form(2, 3, 2), grainText + "\xc3", 69, api.ErrForm},
		{"as many blanks as may be", form(2, 3, 2), long, 3, api.ErrForm}, {"one more", form(2, 3, 2), long + " ", 0, api.ErrLong}, {"a right text, and much more", form(2, 3, 2), grainText + long, 0, api.ErrLong}, {"too many blanks for a form that is not allowed", form(2, 3, 5), long + " ", 0, api.ErrRange}, {"one for none", form(2), "", 0, api.ErrMany},
		{"a right text of a form that is not allowed", form(0, 3, 2), grainText, 0, api.ErrRange},
	} {
		if b, n, e := book.Parse(x.f, x.text); !isZero(b) || n != x.at || e != x.e {
			t.Error(x.name, ": Parse returns", b, n, e, "and should return", x.at, x.e)
		}
	}
}

// candidates are all rows of a form that could be those of a line that has begun: of fields that are not there the number is 0,
// of the last one that is there it is any.
func candidates(f book.Form, begun string) []book.Row {
	if !isOfRow(begun) {
		return []book.Row{lenient(f, "")}
	}
	r := lenient(f, begun)
	column := min(strings.Count(begun, "|"), len(f.Widths)-1)
	rows := []book.Row{r}
	limit := 1
	for range f.Widths[column] {
		limit *= 10
	}
	for n := range limit {
		more := copyRow(r)
		more.Numbers[column] = n
		rows = append(rows, more)
	}
	return rows
}

// beginsBook says whether some right text begins with a text: its whole lines tell of all rows but for one at most.
func beginsBook(f book.Form, text string) bool {
	b := rowsOf(f, text)
	begun := text[strings.LastIndex(text, "\n")+1:]
	if isBook(b) && strings.HasPrefix(printed(b), text) {
		return true
	}
	for _, r := range candidates(f, begun) {
		for _, is := range []bool{false, true} {
			r.Struck = is
			if isOfRow(begun) && !strings.HasPrefix(lineOf(f, r), begun) {
				continue
			}
			more := of(f, append(copyBook(b).Rows, r)...)
			if isBook(more) && strings.HasPrefix(printed(more), text) {
				return true
			}
		}
	}
	return false
}

// isOfRow says whether a line that has begun is that of a row.
func isOfRow(begun string) bool {
	return strings.HasPrefix(begun, " ") || strings.HasPrefix(begun, "-")
}

// longestBeginning is how many bytes the longest beginning of a text has with which some right text begins.
func longestBeginning(f book.Form, text string) int {
	n := 0
	for n < len(text) && beginsBook(f, text[:n+1]) {
		n++
	}
	return n
}

// spoil changes a text somewhere.
func spoil(r *rand.Rand, text string) string {
	at := r.IntN(len(text))
	to := at + r.IntN(len(text)-at)
	c := known[r.IntN(len(known))]
	switch r.IntN(6) {
	case 0:
		return text[:at]
	case 1:
		return text[:at] + text[at+1:]
	case 2:
		return text[:at] + string([]byte{c}) + text[at:]
	case 3:
		return text[:to] + text[at:]
	case 4:
		return text + text[at:to]
	}
	return with(text, at, c)
}

func TestParseByTheWords(t *testing.T) {
	right, wrong, early := 0, 0, 0
	r := rand.New(rand.NewPCG(3, 5))
	for range 400 {
		b := someBook(r, someForm(r, 3, 2, 3), 6)
		if r.IntN(3) == 0 {
			b = longBook(r)
			b.Form.Widths = b.Form.Widths[:1]
			for k := range b.Rows {
				b.Rows[k].Numbers = b.Rows[k].Numbers[:1]
			}
		}
		text := printed(b)
		for range r.IntN(3) {
			text = spoil(r, text)
			if text == "" {
				break
			}
		}
		if isRight(b.Form, text) {
			right++
			if got, n, e := book.Parse(b.Form, text); !sameBook(got, rowsOf(b.Form, text)) || n != len(text) || e != api.OK {
				t.Errorf("Parse of %q for %v returns %v %d %v", text, b.Form, got, n, e)
			}
			continue
		}
		want := longestBeginning(b.Form, text)
		if got, n, e := book.Parse(b.Form, text); !isZero(got) || n != want || e != api.ErrForm {
			t.Errorf("Parse of %q for %v returns %v %d %v, and should return %d", text, b.Form, got, n, e, want)
		}
		if want == len(text) {
			early++
		}
		wrong++
	}
	if right < 80 || wrong < 150 || early < 15 {
		t.Error("so many texts are right:", right, "and so many not:", wrong, "of which so many could go on:", early)
	}
}

// TestParseOfAnyLines makes texts of lines that are right in other places.
func TestParseOfAnyLines(t *testing.T) {
	r := rand.New(rand.NewPCG(8, 9))
	right := 0
	far := map[int]int{}
	for range 3000 {
		f := form(1+r.IntN(3), 1)
		lines := []string{" 7|h\n", "-7|s\n", " 0|a\n", "=  0|\n", "=  7|\n", "+  7|\n", "= 14|\n", "+ 14|\n", "= 21|\n", "+  0|\n"}
		if r.IntN(3) == 0 {
			lines = append(lines, "=", "-", "+", " ")
		}
		text := ""
		for range 60 {
			line := lines[r.IntN(len(lines))]
			if beginsBook(f, text+line) || r.IntN(40) == 0 {
				text += line
			}
		}
		want := longestBeginning(f, text)
		got, n, e := book.Parse(f, text)
		if isRight(f, text) {
			if n != len(text) || e != api.OK || !sameBook(got, rowsOf(f, text)) {
				t.Errorf("Parse of %q for %v returns %v %d %v", text, f, got, n, e)
			}
			right++
		} else if n != want || e != api.ErrForm || !isZero(got) {
			t.Errorf("Parse of %q for %v returns %v %d %v, and should return %d", text, f, got, n, e, want)
		}
		far[want/20]++
	}
	if right < 100 || far[1] < 100 || far[2] < 100 || far[3] < 50 {
		t.Error(right, "texts are right, and so many for so far:", far)
	}
}
