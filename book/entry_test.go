package book_test

import (
	"math"
	"math/rand/v2"
	"testing"

	"staddle/api"
	"staddle/book"
)

// full is a book with as many rows as can be.
func full() book.Book { return of(form(6, 1), sevens(12)...) }

// broken is a book with an error, and as many rows as can be.
func broken() book.Book { return of(form(0, 1), sevens(12)...) }

func TestPut(t *testing.T) {
	for _, x := range []struct {
		name string
		b    book.Book
		r    book.Row
		e    api.Errno
	}{
		{"one more", grain(), row(1, 2), api.OK}, {"a struck one", grain(), struck(999, 99), api.OK}, {"the same once more", grain(), row(12, 5), api.OK}, {"one of nothing", grain(), row(0, 0), api.OK}, {"the first one", of(form(2, 1)), row(3), api.OK},
		{"the last one", of(form(2, 1), sevens(11)...), row(3), api.OK}, {"none more", full(), row(3), api.ErrFull}, {"none more, with too many numbers", full(), row(3, 3), api.ErrFull}, {"none more, with a number that is not allowed", full(), row(10), api.ErrFull},
		{"none with a number less", grain(), row(1), api.ErrMany}, {"none without numbers", grain(), row(), api.ErrMany}, {"none with a number more", grain(), row(1, 2, 3), api.ErrMany}, {"none with a number less that is not allowed", grain(), row(1000), api.ErrMany},
		{"none with a number that is too great", grain(), row(1, 100), api.ErrRange}, {"none with one below nothing", grain(), row(-1, 0), api.ErrRange}, {"no struck one with a number that is too great", grain(), struck(1000, 0), api.ErrRange},
		{"none in a book with an error", broken(), row(3), api.ErrRange}, {"none in a book with too many rows", of(form(2, 1), sevens(13)...), row(3), api.ErrMany}, {"none in a book with a row that is not allowed", but(func(b *book.Book) { b.Rows[2] = row(1) }), row(1000, 1), api.ErrMany},
	} {
		want := book.Book{}
		if x.e == api.OK {
			want = copyBook(x.b)
			want.Rows = append(want.Rows, x.r)
		}
		if got, e := book.Put(x.b, x.r); e != x.e || !sameBook(got, want) {
			t.Error(x.name, ": Put returns", got, e, "and should return", want, x.e)
		}
	}
}

func TestStrikeAndCorrect(t *testing.T) {
	for _, x := range []struct {
		name string
		b    book.Book
		row  int
		r    book.Row
		e, f api.Errno
	}{
		{"the first one", grain(), 0, row(90, 41), api.OK, api.OK}, {"the second one, and a struck one in its place", grain(), 1, struck(90, 41), api.OK, api.OK}, {"the second one, and the same in its place", grain(), 1, row(100, 40), api.OK, api.OK}, {"the last one", but(func(b *book.Book) { b.Rows[2].Struck = false }), 2, row(0, 0), api.OK, api.OK},
		{"none twice", grain(), 2, row(90, 41), api.ErrTwice, api.ErrTwice}, {"none twice, and a row with a number less", grain(), 2, row(90), api.ErrTwice, api.ErrTwice}, {"none twice in a full book", but(func(b *book.Book) { *b = full(); b.Rows[11].Struck = true }), 11, row(3), api.ErrTwice, api.ErrTwice},
		{"none behind the last one", grain(), 3, row(90), api.ErrNot, api.ErrNot}, {"none before the first one", grain(), -1, row(1000, 0), api.ErrNot, api.ErrNot}, {"none of a book without rows", of(form(2, 1)), 0, row(3), api.ErrNot, api.ErrNot}, {"none far behind", grain(), math.MaxInt, row(1, 1), api.ErrNot, api.ErrNot}, {"none far before", grain(), math.MinInt, row(1, 1), api.ErrNot, api.ErrNot}, {"none behind the last one of a full book", full(), 12, row(3), api.ErrNot, api.ErrNot},
		{"one, but no row with a number less", grain(), 1, row(90), api.OK, api.ErrMany}, {"one, but no row with a number more", grain(), 1, row(90, 41, 0), api.OK, api.ErrMany}, {"one, but no row with a number that is too great", grain(), 1, row(90, 100), api.OK, api.ErrRange},
		{"one of a full book", full(), 11, row(3), api.OK, api.ErrFull}, {"one of a full book, and a row with a number more", full(), 0, row(3, 3), api.OK, api.ErrFull}, {"one of a book with 11 rows", of(form(2, 1), sevens(11)...), 10, row(3), api.OK, api.OK},
		{"none of a book with an error", broken(), 99, row(3, 3), api.ErrRange, api.ErrRange}, {"none of a book with too many rows", of(form(2, 1), sevens(13)...), 0, row(3), api.ErrMany, api.ErrMany},
	} {
		want := book.Book{}
		if x.e == api.OK {
			want = copyBook(x.b)
			want.Rows[x.row].Struck = true
		}
		if got, e := book.Strike(x.b, x.row); e != x.e || !sameBook(got, want) {
			t.Error(x.name, ": Strike returns", got, e, "and should return", want, x.e)
		}
		if x.f == api.OK {
			want.Rows = append(want.Rows, x.r)
		} else {
			want = book.Book{}
		}
		if got, f := book.Correct(x.b, x.row, x.r); f != x.f || !sameBook(got, want) {
			t.Error(x.name, ": Correct returns", got, f, "and should return", want, x.f)
		}
	}
}

func TestTextAfterCorrect(t *testing.T) {
	b, e := book.Correct(grain(), 1, row(90, 41))
	text, f := book.Print(b)
	if want := "  12| 5|k\n-100|40|f\n=   12|   5|\n+   12|   5|\n-  7| 0|j\n  90|41|q\n=  102|  46|\n"; text != want || e != api.OK || f != api.OK {
		t.Errorf("the text is %q %v %v, and should be %q", text, e, f, want)
	}
}

// TestEntriesByTheWords makes entries that are often not allowed.
func TestEntriesByTheWords(t *testing.T) {
	errors := map[api.Errno]int{}
	trials(t, 500, func(r *rand.Rand, b book.Book, _ string) {
		made := someRow(r, b.Form)
		switch r.IntN(4) {
		case 0:
			made.Numbers[0] += 9 * (r.IntN(3) - 1)
		case 1:
			made.Numbers = append(made.Numbers, 0)
		}
		put := errorOfBook(of(b.Form, made))
		if len(b.Rows) == 12 {
			put = api.ErrFull
		}
		more := copyBook(b)
		more.Rows = append(more.Rows, made)
		if put != api.OK {
			more = book.Book{}
		}
		if got, e := book.Put(b, made); e != put || !sameBook(got, more) {
			t.Error(b, made, ": Put returns", got, e, "and should return", more, put)
		}
		which := r.IntN(14) - 1
		strike, less := api.OK, copyBook(b)
		switch {
		case which < 0 || which >= len(b.Rows):
			strike, less = api.ErrNot, book.Book{}
		case b.Rows[which].Struck:
			strike, less = api.ErrTwice, book.Book{}
		default:
			less.Rows[which].Struck = true
		}
		if got, e := book.Strike(b, which); e != strike || !sameBook(got, less) {
			t.Error(b, which, ": Strike returns", got, e, "and should return", less, strike)
		}
		correct := strike
		if strike == api.OK {
			correct = put
			less.Rows = append(less.Rows, made)
		}
		if correct != api.OK {
			less = book.Book{}
		}
		if got, e := book.Correct(b, which, made); e != correct || !sameBook(got, less) {
			t.Error(b, which, made, ": Correct returns", got, e, "and should return", less, correct)
		}
		errors[put]++
		errors[strike]++
		errors[correct]++
	})
	if errors[api.OK] < 500 || errors[api.ErrFull] < 300 || errors[api.ErrNot] < 500 || errors[api.ErrTwice] < 300 || errors[api.ErrMany] < 300 || errors[api.ErrRange] < 50 {
		t.Error("the errors are", errors)
	}
}
