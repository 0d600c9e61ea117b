package book_test

import (
	"math/rand/v2"
	"slices"
	"strings"
	"testing"

	"staddle/api"
	"staddle/book"
)

func TestBooksAreToldAgain(t *testing.T) {
	trials(t, 300, func(r *rand.Rand, b book.Book, _ string) {
		text, e := book.Print(b)
		again, n, g := book.Parse(b.Form, text)
		if !sameBook(again, b) || n != len(text) || e != api.OK || g != api.OK {
			t.Errorf("%v has the text %q %v, and this the book %v %d %v", b, text, e, again, n, g)
		}
		told, e := book.Print(again)
		if told != text || e != api.OK {
			t.Errorf("the book of %q has the text %q %v", text, told, e)
		}
		for range r.IntN(3) {
			text = spoil(r, text+"x")
			if again, n, e := book.Parse(b.Form, text); e == api.OK {
				if told, g := book.Print(again); told != text || n != len(text) || g != api.OK {
					t.Errorf("the book of %q %d has the text %q %v", text, n, told, g)
				}
			}
		}
	})
}

func TestBeginningsOfTextsAreRightSoFar(t *testing.T) {
	trials(t, 20, func(_ *rand.Rand, b book.Book, text string) {
		for n := range text {
			if _, far, e := book.Parse(b.Form, text[:n]); far != n || (e == api.OK) != isRight(b.Form, text[:n]) {
				t.Errorf("Parse of the first %d bytes of %q returns %d %v", n, text, far, e)
			}
		}
	})
}

// TestNoByteCanBeChanged changes each byte of texts to each other one that texts have, and to some that they never have.
func TestNoByteCanBeChanged(t *testing.T) {
	trials(t, 3, func(_ *rand.Rand, b book.Book, text string) {
		for at := range text {
			for _, c := range []byte(known + "\x00\xff?*,>Ax}") {
				if c == text[at] {
					continue
				}
				if _, n, e := book.Parse(b.Form, with(text, at, c)); e != api.ErrForm || n < at {
					t.Errorf("Parse of %q returns %d %v", with(text, at, c), n, e)
				}
			}
		}
	})
}

func TestNoNeighboursCanBeExchanged(t *testing.T) {
	exchanged := 0
	trials(t, 40, func(_ *rand.Rand, b book.Book, text string) {
		for at := 1; at < len(text)-1; at++ {
			one, other := text[at:at+1], text[at+1:at+2]
			if one == other || !isFigure(one) || !isFigure(other) || text[at-1] == '\n' && strings.Contains("+=", one) {
				continue
			}
			if _, _, e := book.Parse(b.Form, text[:at]+other+one+text[at+2:]); e != api.ErrForm {
				t.Errorf("bytes %d and %d of %q can be exchanged", at, at+1, text)
			}
			exchanged++
		}
	})
	if exchanged < 3000 {
		t.Error("just", exchanged, "neighbours differ")
	}
}

// isFigure says whether a byte can be in a field.
func isFigure(c string) bool { return strings.Contains(" 0123456789", c) }

func TestASingleTornByteIsRestored(t *testing.T) {
	trials(t, 20, func(_ *rand.Rand, b book.Book, text string) {
		for at := range text {
			gap, e := book.Tear(text, list(at))
			got, f := book.Restore(b.Form, gap)
			first, g := book.Fillings(b.Form, gap)
			n, h := book.Count(b.Form, gap)
			if e != api.OK || !sameBook(got, b) || f != api.OK || !slices.Equal(first, []string{text}) || g != api.OK || n != 1 || h != api.OK {
				t.Errorf("byte %d of %q is restored as %v %v %q %v %d %v", at, text, got, f, first, g, n, h)
			}
		}
	})
}

// isFillingOf says whether a text is right, and has the bytes of a torn one.
func isFillingOf(f book.Form, text, gap string) bool {
	merged, e := book.Merge(text, gap)
	return isRight(f, text) && e == api.OK && merged == text
}

func TestTwoFillingsShowWhatCannotBeRestored(t *testing.T) {
	restored, several := 0, 0
	trials(t, 300, func(r *rand.Rand, b book.Book, text string) {
		near := r.IntN(len(text))
		bytes := some(r, 1+r.IntN(book.MaxTorn), min(10, len(text)-near))
		for k := range bytes {
			bytes[k] += near
		}
		gap, e := book.Tear(text, bytes)
		n, f := book.Count(b.Form, gap)
		first, g := book.Fillings(b.Form, gap)
		got, h := book.Restore(b.Form, gap)
		if e != api.OK || f != api.OK || g != api.OK || n < 1 || len(first) != min(n, 2) {
			t.Fatalf("%q has %d fillings %v, the first two of which are %q %v", gap, n, f, first, g)
		}
		for _, filling := range first {
			if !isFillingOf(b.Form, filling, gap) {
				t.Errorf("%q is no filling of %q", filling, gap)
			}
		}
		if n == 1 {
			restored++
			if first[0] != text || !sameBook(got, b) || h != api.OK {
				t.Errorf("%q is restored as %v %v, and its filling is %q", gap, got, h, first)
			}
			return
		}
		several++
		if first[0] >= first[1] || n == 2 && !slices.Contains(first, text) || text < first[1] && text != first[0] || !isZero(got) || h != api.ErrClash {
			t.Errorf("%q has %d fillings, the first two of which are %q, and is restored as %v %v", gap, n, first, got, h)
		}
	})
	if restored < 500 || several < 5 {
		t.Error(restored, "texts are restored, and", several, "have several fillings")
	}
}

// TestTwoCopiesAreOne tears two copies of a text, and writes other bytes into them, but not more than can be restored.
func TestTwoCopiesAreOne(t *testing.T) {
	trials(t, 100, func(r *rand.Rand, b book.Book, text string) {
		bytes := some(r, 11, len(text))
		wrong := bytes[0]
		half := 1 + len(bytes)/2
		one, e := book.Tear(text, bytes[1:half])
		other, f := book.Tear(with(text, wrong, text[wrong]+1), bytes[half:])
		merged, g := book.Merge(one, other)
		got, h := book.Restore(b.Form, merged)
		if e != api.OK || f != api.OK || g != api.OK || h != api.OK || merged != torn(text, wrong) || !sameBook(got, b) {
			t.Errorf("the copies %q and %q are merged as %q %v, and restored as %v %v", one, other, merged, g, got, h)
		}
	})
}

// feet asks for the sums at the feet of a book.
func feet(t *testing.T, b book.Book) [][]int {
	t.Helper()
	foots, e := book.Foots(b)
	if e != api.OK {
		t.Fatal(b, "has error", e)
	}
	return foots
}

func TestWhatIsStruckIsMissingAtTheLastFoot(t *testing.T) {
	struckRows := 0
	trials(t, 200, func(r *rand.Rand, b book.Book, text string) {
		before := feet(t, b)
		for k := range b.Rows {
			if b.Rows[k].Struck {
				continue
			}
			struckRows++
			less, e := book.Strike(b, k)
			after := feet(t, less)
			page := k / b.Form.Lines
			if e != api.OK || len(after) != len(before) || !sameLists(after[:page], before[:page]) {
				t.Error("row", k, "of", b, "is struck, and the feet were", before, "and are", after, e)
			}
			for column, n := range b.Rows[k].Numbers {
				if after[len(after)-1][column] != before[len(before)-1][column]-n {
					t.Error("row", k, "of", b, "is struck, and the feet were", before, "and are", after)
				}
			}
			told, _ := book.Print(less)
			if same := untilPage(text, page); !strings.HasPrefix(told, same) {
				t.Errorf("row %d of %q is struck, and a page before it is changed: %q", k, text, told)
			}
			if rows, e := book.Differ(b, less); !slices.Equal(rows, list(k)) || e != api.OK {
				t.Error("row", k, "of", b, "is struck, and differ", rows, e)
			}
		}
	})
	if struckRows < 1000 {
		t.Error("just", struckRows, "rows are struck")
	}
}

// untilPage is the beginning of a text until a page begins, but for what is carried to this.
func untilPage(text string, page int) string {
	at := 0
	for range page {
		at += strings.Index(text[at:], "\n=") + 1
		at += strings.Index(text[at:], "\n") + 1
	}
	return text[:at]
}

func TestAfterCorrectTheNewRowIsInPlaceOfTheOldOne(t *testing.T) {
	corrected := 0
	trials(t, 200, func(r *rand.Rand, b book.Book, _ string) {
		if len(b.Rows) == book.MaxRows {
			b.Rows = b.Rows[:r.IntN(book.MaxRows)]
		}
		before := feet(t, b)
		for k, old := range b.Rows {
			if old.Struck {
				continue
			}
			corrected++
			made := someRow(r, b.Form)
			made.Struck = false
			more, e := book.Correct(b, k, made)
			if e != api.OK {
				t.Fatal("row", k, "of", b, "cannot be corrected:", e)
			}
			after := feet(t, more)
			for column := range b.Form.Widths {
				if after[len(after)-1][column] != before[len(before)-1][column]-old.Numbers[column]+made.Numbers[column] {
					t.Error("row", k, "of", b, "is corrected as", made, "and the feet were", before, "and are", after)
				}
			}
			if rows, e := book.Differ(b, more); !slices.Equal(rows, list(k, len(b.Rows))) || e != api.OK {
				t.Error("row", k, "of", b, "is corrected, and differ", rows, e)
			}
		}
	})
	if corrected < 1000 {
		t.Error("just", corrected, "rows are corrected")
	}
}

// TestEntriesAreKept puts and strikes row after row: the book is the same as one with all of them.
func TestEntriesAreKept(t *testing.T) {
	trials(t, 100, func(r *rand.Rand, b book.Book, _ string) {
		made := of(copyForm(b.Form))
		e := api.OK
		for _, r := range b.Rows {
			if e == api.OK {
				made, e = book.Put(made, book.Row{Numbers: r.Numbers})
			}
		}
		for k, r := range b.Rows {
			if e == api.OK && r.Struck {
				made, e = book.Strike(made, k)
			}
		}
		if e != api.OK || !sameBook(made, b) {
			t.Error("the book is", made, e, "and should be", b)
		}
	})
}
