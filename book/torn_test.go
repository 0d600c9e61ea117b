package book_test

import (
	"math"
	"math/rand/v2"
	"slices"
	"strings"
	"testing"

	"staddle/api"
	"staddle/book"
)

func TestTear(t *testing.T) {
	long := strings.Repeat("x", api.MaxBytes)
	for _, x := range []struct {
		name  string
		text  string
		bytes []int
		want  string
		e     api.Errno
	}{
		{"two bytes", "abc", list(2, 0), "?b?", api.OK}, {"no bytes", "abc", nil, "abc", api.OK}, {"all bytes, more than can be filled", "abcdef", list(5, 4, 3, 2, 1, 0), "??????", api.OK}, {"a byte that is torn", "a?c", list(1), "a?c", api.OK}, {"another one than that is torn", "a?c", list(2), "a??", api.OK}, {"nothing of no text", "", nil, "", api.OK},
		{"one byte of a rune", "é", list(1), "\xc3?", api.OK}, {"a byte behind a rune", "éa", list(2), "é?", api.OK}, {"a byte of no rune", "\xff\x00", list(0), "?\x00", api.OK}, {"the last byte of a long text", long, list(api.MaxBytes - 1), long[1:] + "?", api.OK},
		{"a byte behind the last one", "abc", list(3), "", api.ErrNot}, {"a byte before the first one", "abc", list(-1), "", api.ErrNot}, {"a byte of no text", "", list(0), "", api.ErrNot}, {"bytes far away", "abc", list(math.MinInt, math.MaxInt), "", api.ErrNot}, {"a byte that is not there behind one twice", "abc", list(0, 0, 3), "", api.ErrNot}, {"one that is not there twice", "abc", list(3, 3), "", api.ErrNot},
		{"a byte twice", "abc", list(1, 0, 1), "", api.ErrTwice}, {"a torn byte twice", "a?c", list(1, 1), "", api.ErrTwice}, {"a byte a million times", "abc", make([]int, 1000000), "", api.ErrTwice},
		{"a text that is too long", long + "x", nil, "", api.ErrLong}, {"a byte that is not there of one that is too long", long + "x", list(-1), "", api.ErrLong}, {"a byte twice of one that is too long", long + "x", list(1, 1), "", api.ErrLong},
	} {
		if got, e := book.Tear(x.text, x.bytes); got != x.want || e != x.e {
			t.Errorf("%s: Tear returns %.20q %v, and should return %.20q %v", x.name, got, e, x.want, x.e)
		}
	}
}

// gaps are torn texts with their fillings, the first two or fewer.
var gaps = []struct {
	name  string
	f     book.Form
	text  string
	count int
	first []string
}{
	{"nothing of the example", form(2, 3, 2), grainText, 1, []string{grainText}},
	{"the 1 of row 0", form(2, 3, 2), torn(grainText, 2), 1, []string{grainText}},
	{"the 1 of row 0, and the letter", form(2, 3, 2), torn(grainText, 2, 8), 1, []string{grainText}},
	{"the 2 of row 0, and the last digits of the sums", form(2, 3, 2), torn(grainText, 3, 25, 38, 61), 1, []string{grainText}},
	{"four bytes that are not in rows", form(2, 3, 2), torn(grainText, 20, 33, 45, 68), 1, []string{grainText}},
	{"the first four bytes", form(2, 3, 2), torn(grainText, 0, 1, 2, 3), 1, []string{grainText}},
	{"the bar, the letter and the line feed", form(2, 3, 2), torn(grainText, 7, 8, 9), 1, []string{grainText}},
	{"a figure of a wrong text", form(2, 3, 2), torn(with(grainText, 8, 'j'), 20), 0, nil},
	{"a figure of a text that goes on", form(2, 3, 2), torn(grainText, 2) + "+", 0, nil},
	{"a byte behind a text", form(2, 3, 2), grainText + "?", 0, nil},
	{"no text", form(2, 3, 2), "", 0, nil},
	{"one byte", form(2, 3, 2), "?", 0, nil},
	{"four bytes", form(1, 1), "????", 0, nil},
	{"the beginning of a text", form(2, 3, 2), torn(grainText[:60], 2), 0, nil},
	{"a figure, the letter and the sum", form(1, 1), " ?|?\n=  ?|\n", 10, []string{" 0|a\n=  0|\n", " 1|b\n=  1|\n"}},
	{"the mark, the letter and the sum", form(1, 1), "?5|?\n=  ?|\n", 2, []string{" 5|f\n=  5|\n", "-5|q\n=  0|\n"}},
	{"the mark and the letter", form(1, 1), "?5|?\n=  5|\n", 1, []string{" 5|f\n=  5|\n"}},
	{"the mark of a row of nothing, and the letter", form(1, 1), "?0|?\n=  0|\n", 2, []string{" 0|a\n=  0|\n", "-0|l\n=  0|\n"}},
	{"the figures and the letter", form(1, 2), " ??|?\n=  12|\n", 1, []string{" 12|f\n=  12|\n"}},
	{"the figures and the sums", form(1, 2), " ??|f\n=  ??|\n", 3, []string{" 12|f\n=  12|\n", " 31|f\n=  31|\n"}},
	{"two figures of a struck row", form(1, 2), "-??|l\n=   0|\n", 4, []string{"- 0|l\n=   0|\n", "-59|l\n=   0|\n"}},
	{"all of a foot", form(1, 1), "????|\n", 1, []string{"=  0|\n"}},
	{"a foot of another book", form(1, 1), "???5|\n", 0, nil},
	{"figures of a struck row", form(6, 4), "-????|a\n=     0|\n", 433, []string{"-   3|a\n=     0|\n", "-  18|a\n=     0|\n"}},
	{"three figures of a struck row, and its letter", form(1, 4), "- ???|?\n=     0|\n", 1000, []string{"-   0|l\n=     0|\n", "-   1|p\n=     0|\n"}},
	{"a byte of no rune", form(1, 1), " ?|\xff\n=  5|\n", 0, nil},
	{"a byte before a rune of two bytes", form(1, 1), " ?é\n=  5|\n", 0, nil},
}

func TestFillings(t *testing.T) {
	for _, x := range gaps {
		for _, text := range x.first {
			if !isRight(x.f, text) {
				t.Errorf("%q is not right", text)
			}
		}
		n, e := book.Count(x.f, x.text)
		if n != x.count || e != api.OK {
			t.Error(x.name, ": Count returns", n, e, "and should return", x.count)
		}
		first, e := book.Fillings(x.f, x.text)
		if !slices.Equal(first, x.first) || e != api.OK {
			t.Errorf("%s: Fillings returns %q %v, and should return %q", x.name, first, e, x.first)
		}
		askRestore(t, x.f, x.text, x.first)
	}
}

// askRestore asks for the book of a torn text with such fillings.
func askRestore(t *testing.T, f book.Form, text string, first []string) {
	t.Helper()
	want, e := book.Book{}, api.ErrClash
	switch len(first) {
	case 0:
		e = api.ErrNone
	case 1:
		want, e = rowsOf(f, first[0]), api.OK
	}
	if b, g := book.Restore(f, text); !sameBook(b, want) || g != e {
		t.Errorf("Restore of %q for %v returns %v %v, and should return %v %v", text, f, b, g, want, e)
	}
}

func TestErrorsOfTornTexts(t *testing.T) {
	long := strings.Repeat(" ", api.MaxBytes)
	for _, x := range []struct {
		name string
		f    book.Form
		text string
		e    api.Errno
	}{
		{"five torn bytes", form(2, 3, 2), "?????", api.ErrFull}, {"five torn bytes of the example", form(2, 3, 2), torn(grainText, 0, 10, 20, 30, 68), api.ErrFull}, {"five torn bytes of a wrong text", form(2, 3, 2), "x" + "?????", api.ErrFull}, {"as many torn bytes as may be", form(2, 3, 2), strings.Repeat("?", api.MaxBytes), api.ErrFull}, {"five torn bytes between others", form(1, 1), "\xff?é?\x00?\xc3?\xc3\xc3?", api.ErrFull},
		{"a text that is too long", form(2, 3, 2), long + " ", api.ErrLong}, {"torn bytes of a text that is too long", form(2, 3, 2), long + "?????", api.ErrLong}, {"one that is as long as may be", form(2, 3, 2), long, api.OK}, {"four torn bytes at its end", form(2, 3, 2), long[4:] + "????", api.OK}, {"four torn bytes between others", form(1, 1), "\xff?é?\x00?\xc3?\xc3\xc3", api.OK},
		{"a form that is not allowed", form(2, 3, 5), "?????", api.ErrRange}, {"no columns", form(2), long + " ", api.ErrMany}, {"no lines", form(0, 1), " 5|f\n=  5|\n", api.ErrRange},
	} {
		none := x.e
		if x.e == api.OK {
			none = api.ErrNone
		}
		n, e := book.Count(x.f, x.text)
		first, g := book.Fillings(x.f, x.text)
		b, h := book.Restore(x.f, x.text)
		if n != 0 || e != x.e || len(first) > 0 || g != x.e || !isZero(b) || h != none {
			t.Error(x.name, ": Count, Fillings and Restore return", n, e, first, g, b, h, "and should return", x.e, none)
		}
	}
}

// fillWith are all right texts in which torn bytes have bytes of some lists, in the order of their bytes.
func fillWith(f book.Form, text string, bytes func(at int) string) []string {
	at := strings.Index(text, "?")
	if at < 0 {
		if isRight(f, text) {
			return []string{text}
		}
		return nil
	}
	var all []string
	for _, c := range []byte(bytes(at)) {
		all = append(all, fillWith(f, with(text, at, c), bytes)...)
	}
	return all
}

// askFillings asks for the fillings of a torn text, which are these.
func askFillings(t *testing.T, f book.Form, text string, all []string) {
	t.Helper()
	slices.Sort(all)
	if n, e := book.Count(f, text); n != len(all) || e != api.OK {
		t.Errorf("Count of %q for %v returns %v %v, and should return %v", text, f, n, e, len(all))
	}
	first := all[:min(2, len(all))]
	if got, e := book.Fillings(f, text); !slices.Equal(got, first) || e != api.OK {
		t.Errorf("Fillings of %q for %v returns %q %v, and should return %q", text, f, got, e, first)
	}
	askRestore(t, f, text, first)
}

// TestAllFillingsOfTwoBytes fills each two torn bytes of small texts with all bytes that texts have.
func TestAllFillingsOfTwoBytes(t *testing.T) {
	counts := map[int]int{}
	for _, b := range []book.Book{of(form(1, 1)), of(form(2, 1), row(5)), of(form(1, 2), row(0)), of(form(1, 1), struck(9))} {
		text := printed(b)
		for one := range text {
			for other := range one {
				gap := torn(text, other, one)
				all := fillWith(b.Form, gap, func(int) string { return known })
				askFillings(t, b.Form, gap, all)
				counts[len(all)]++
			}
		}
	}
	if counts[1] < 100 || counts[2] < 1 {
		t.Error("so many torn texts have so many fillings:", counts)
	}
}

// likely are the bytes that a right text can have where another one has some byte.
func likely(text string) func(at int) string {
	return func(at int) string {
		switch c := text[at]; {
		case at == 0 || text[at-1] == '\n':
			return " +-="
		case c == ' ' || c >= '0' && c <= '9':
			return " 0123456789"
		case c >= 'a' && c <= 'w':
			return "abcdefghijklmnopqrstuvw"
		}
		return "\n|"
	}
}

// TestAllFillingsOfMoreBytes fills up to three torn bytes of texts, right ones and others, with all bytes that are likely.
func TestAllFillingsOfMoreBytes(t *testing.T) {
	counts := map[int]int{}
	trials(t, 40, func(r *rand.Rand, b book.Book, text string) {
		bytesAt := likely(text)
		if r.IntN(6) == 0 {
			text = with(text, r.IntN(len(text)), known[r.IntN(len(known))])
		}
		near := r.IntN(len(text))
		bytes := some(r, 1+r.IntN(3), min(8, len(text)-near))
		for k := range bytes {
			bytes[k] += near
		}
		gap := torn(text, bytes...)
		all := fillWith(b.Form, gap, bytesAt)
		askFillings(t, b.Form, gap, all)
		counts[min(3, len(all))]++
	})
	if counts[0] < 10 || counts[1] < 50 || counts[2]+counts[3] < 2 {
		t.Error("so many torn texts have so many fillings:", counts)
	}
}

// TestAllFillingsOfRows tears up to four bytes of the figures and the letter of a row of one column, and of the sums.
func TestAllFillingsOfRows(t *testing.T) {
	r := rand.New(rand.NewPCG(4, 1))
	counts := map[int]int{}
	for range 40 {
		b := of(someForm(r, 1, 3, 2))
		b.Rows = []book.Row{someRow(r, b.Form)}
		b.Rows[0].Struck = r.IntN(2) == 0
		text := printed(b)
		width := b.Form.Widths[0]
		places := append(list(0, width+2), some(r, 9, width)...)
		for k := range places[2:] {
			places[k+2]++
		}
		places = append(places, len(text)-3)
		var bytes []int
		for _, k := range some(r, 4, len(places)) {
			bytes = append(bytes, places[k])
		}
		gap := torn(text, bytes...)
		all := fillWith(b.Form, gap, likely(text))
		askFillings(t, b.Form, gap, all)
		counts[min(3, len(all))]++
	}
	if counts[1] < 3 || counts[3] < 10 {
		t.Error("so many torn texts have so many fillings:", counts)
	}
}

// TestFillingsOfTheLongestText tears bytes so that there are as many fillings as can be, each of which has to be read to its end.
func TestFillingsOfTheLongestText(t *testing.T) {
	b := of(form(1, 4, 4, 4, 4), struck(9999, 9999, 9999, 9999))
	for range 11 {
		b.Rows = append(b.Rows, row(9999, 9999, 9999, 9999))
	}
	gap := torn(printed(b), 2, 3, 4, 21)
	n, e := book.Count(b.Form, gap)
	first, f := book.Fillings(b.Form, gap)
	if n != 1000 || e != api.OK || len(first) != 2 || f != api.OK || !isRight(b.Form, first[0]) || !isRight(b.Form, first[1]) || first[0][:5] != "-9000" || first[1][:5] != "-9001" {
		t.Errorf("Count and Fillings return %v %v %q %v", n, e, first, f)
	}
}
