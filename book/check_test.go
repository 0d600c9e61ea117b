package book_test

import (
	"math"
	"math/rand/v2"
	"slices"
	"testing"

	"staddle/api"
	"staddle/book"
)

func TestConstants(t *testing.T) {
	got := list(book.Torn, book.MaxColumns, book.MaxWidth, book.MaxLines, book.MaxRows, book.MaxTorn)
	if want := list('?', 4, 4, 6, 12, 4); !slices.Equal(got, want) {
		t.Error("the constants are", got, "and should be", want)
	}
}

func TestCheckForm(t *testing.T) {
	for _, x := range []struct {
		name string
		f    book.Form
		want api.Errno
	}{
		{"the example", form(2, 3, 2), api.OK}, {"nothing at all", book.Form{}, api.ErrMany}, {"no columns", form(2), api.ErrMany}, {"an empty list of columns", form(2, list()...), api.ErrMany},
		{"one column", form(1, 1), api.OK}, {"4 columns", form(6, 4, 4, 4, 4), api.OK}, {"5 columns", form(6, 4, 4, 4, 4, 4), api.ErrMany}, {"a million columns", form(6, make([]int, 1000000)...), api.ErrMany},
		{"5 columns, and widths and lines that are not allowed", form(0, 0, 0, 0, 0, 9), api.ErrMany}, {"no columns, and no lines", form(0), api.ErrMany},
		{"a first width and lines that are not allowed", form(0, 0, 1), api.ErrRange}, {"a last width that is not allowed", form(1, 1, 2, 3, 5), api.ErrRange},
	} {
		if e := book.CheckForm(x.f); e != x.want {
			t.Error(x.name, "has error", e, "and should have", x.want)
		}
		if e := book.Check(of(x.f)); e != x.want {
			t.Error("a book of", x.name, "has error", e, "and should have", x.want)
		}
	}
	for _, n := range list(math.MinInt, -1, 0, 1, 2, 3, 4, 5, 6, 7, math.MaxInt) {
		for column := range 4 {
			f := form(2, 1, 2, 3, 4)
			f.Widths[column] = n
			if e := book.CheckForm(f); (e == api.OK) != (1 <= n && n <= 4) || e != api.OK && e != api.ErrRange {
				t.Error("the width", n, "of column", column, "has error", e)
			}
		}
		if e := book.CheckForm(form(n, 3, 2)); (e == api.OK) != (1 <= n && n <= 6) || e != api.OK && e != api.ErrRange {
			t.Error("so many lines as", n, "have error", e)
		}
	}
}

func TestCheck(t *testing.T) {
	for _, x := range []struct {
		name string
		b    book.Book
		want api.Errno
	}{
		{"the example", grain(), api.OK}, {"nothing at all", book.Book{}, api.ErrMany}, {"no rows", of(form(2, 3, 2)), api.OK},
		{"12 rows", of(form(2, 1), sevens(12)...), api.OK}, {"13 rows", of(form(2, 1), sevens(13)...), api.ErrMany}, {"13 rows without numbers", of(form(2, 3, 2), make([]book.Row, 13)...), api.ErrMany}, {"a million rows", of(form(2, 1), make([]book.Row, 1000000)...), api.ErrMany},
		{"13 rows of a form that is not allowed", of(form(7, 1), sevens(13)...), api.ErrRange},
		{"a row with a number less", but(func(b *book.Book) { b.Rows[1] = row(100) }), api.ErrMany}, {"with one more", but(func(b *book.Book) { b.Rows[1] = row(100, 40, 0) }), api.ErrMany}, {"with none", but(func(b *book.Book) { b.Rows[2] = struck() }), api.ErrMany}, {"with a million", but(func(b *book.Book) { b.Rows[2] = row(make([]int, 1000000)...) }), api.ErrMany},
		{"a struck row with a number that is not allowed", but(func(b *book.Book) { b.Rows[2] = struck(1000, 0) }), api.ErrRange},
		{"a row with a number less, one of which is not allowed", but(func(b *book.Book) { b.Rows[0] = row(-1) }), api.ErrMany},
		{"a number that is not allowed before a row with one less", but(func(b *book.Book) { b.Rows[0], b.Rows[1] = row(0, 100), row(1) }), api.ErrRange},
		{"a number that is not allowed after a row with one less", but(func(b *book.Book) { b.Rows[1], b.Rows[2] = row(1), row(0, 100) }), api.ErrMany},
	} {
		if e := book.Check(x.b); e != x.want {
			t.Error(x.name, "has error", e, "and should have", x.want)
		}
	}
}

func TestNumbersAtTheLimits(t *testing.T) {
	greatest := list(9, 99, 999, 9999)
	for column, most := range greatest {
		for _, n := range list(math.MinInt, -10, -1, 0, 1, 9, 10, 99, 100, 999, 1000, 9999, 10000, math.MaxInt) {
			want := api.ErrRange
			if n >= 0 && n <= most {
				want = api.OK
			}
			for _, is := range []bool{false, true} {
				r := book.Row{Numbers: list(0, 0, 0, 0), Struck: is}
				r.Numbers[column] = n
				if e := book.Check(of(form(6, 1, 2, 3, 4), r)); e != want {
					t.Error("the number", n, "in column", column, "has error", e, "and should have", want)
				}
				if _, e := book.Letter(form(6, 1, 2, 3, 4), r); e != want {
					t.Error("the letter of", n, "in column", column, "has error", e, "and should have", want)
				}
			}
		}
	}
}

// errorOfBook says what is wrong with a book, by the words of the chapter.
func errorOfBook(b book.Book) api.Errno {
	f := b.Form
	if len(f.Widths) < 1 || len(f.Widths) > 4 {
		return api.ErrMany
	}
	if f.Lines < 1 || f.Lines > 6 || slices.Min(f.Widths) < 1 || slices.Max(f.Widths) > 4 {
		return api.ErrRange
	}
	if len(b.Rows) > 12 {
		return api.ErrMany
	}
	for _, r := range b.Rows {
		if len(r.Numbers) != len(f.Widths) {
			return api.ErrMany
		}
		if !isBook(of(f, r)) {
			return api.ErrRange
		}
	}
	return api.OK
}

// TestCheckByTheWords changes some numbers of books.
func TestCheckByTheWords(t *testing.T) {
	errors := map[api.Errno]int{}
	trials(t, 1000, func(r *rand.Rand, b book.Book, _ string) {
		for range r.IntN(3) {
			numbers := []*int{&b.Form.Lines}
			for k := range b.Form.Widths {
				numbers = append(numbers, &b.Form.Widths[k])
			}
			for k := range b.Rows {
				for column := range b.Rows[k].Numbers {
					numbers = append(numbers, &b.Rows[k].Numbers[column])
				}
			}
			*numbers[r.IntN(len(numbers))] += r.IntN(5) - 2
		}
		switch k := r.IntN(len(b.Rows) + 10); {
		case k < len(b.Rows):
			b.Rows[k].Numbers = b.Rows[k].Numbers[1:]
		case k == len(b.Rows) && r.IntN(2) == 0:
			b.Form.Widths = append(b.Form.Widths, 1)
		case k == len(b.Rows):
			b.Rows = append(b.Rows, b.Rows...)
		}
		want := errorOfBook(b)
		if e := book.Check(b); e != want {
			t.Error(b, "has error", e, "and should have", want)
		}
		errors[want]++
	})
	if errors[api.OK] < 1000 || errors[api.ErrMany] < 300 || errors[api.ErrRange] < 300 {
		t.Error("the errors are", errors)
	}
}

func TestLetter(t *testing.T) {
	for _, x := range []struct {
		name string
		f    book.Form
		r    book.Row
		want string
		e    api.Errno
	}{
		{"row 0 of the example", form(2, 3, 2), row(12, 5), "k", api.OK}, {"row 1", form(2, 3, 2), row(100, 40), "r", api.OK}, {"row 2", form(2, 3, 2), struck(7, 0), "j", api.OK}, {"row 2, not struck", form(2, 3, 2), row(7, 0), "v", api.OK},
		{"nothing", form(1, 1), row(0), "a", api.OK}, {"nothing, struck", form(1, 1), struck(0), "l", api.OK}, {"the last letter", form(1, 2), row(87), "w", api.OK}, {"the first letter again", form(1, 3), row(780), "a", api.OK}, {"the second letter again", form(1, 2), row(88), "b", api.OK}, {"the last letter, struck", form(1, 2), struck(34), "w", api.OK}, {"the first letter, struck", form(1, 2), struck(44), "a", api.OK},
		{"the same in wider columns", form(1, 4), row(5), "u", api.OK}, {"all nines", form(1, 4, 4, 4, 4), row(9999, 9999, 9999, 9999), "f", api.OK},
		{"no columns", form(1), row(), "", api.ErrMany}, {"a width that is not allowed", form(1, 5), row(5), "", api.ErrRange}, {"no lines", form(0, 1), row(5), "", api.ErrRange}, {"a number less", form(2, 3, 2), row(12), "", api.ErrMany}, {"a number more", form(2, 3, 2), row(12, 5, 0), "", api.ErrMany}, {"a number that is too great", form(2, 3, 2), row(12, 100), "", api.ErrRange},
		{"a row of a form with too many columns", form(2, 1, 1, 1, 1, 1), row(1, 1, 1, 1, 99), "", api.ErrMany},
	} {
		if got, e := book.Letter(x.f, x.r); got != x.want || e != x.e {
			t.Errorf("%s has the letter %q %v, and should have %q %v", x.name, got, e, x.want, x.e)
		}
	}
	letters := map[string]int{}
	trials(t, 300, func(_ *rand.Rand, b book.Book, _ string) {
		for _, r := range b.Rows {
			got, e := book.Letter(b.Form, r)
			if want := letterOf(b.Form, r); got != want || e != api.OK {
				t.Error(r, "of", b.Form, "has the letter", got, e, "and should have", want)
			}
			letters[got]++
		}
	})
	if len(letters) != 23 {
		t.Error("just these letters came:", letters)
	}
}
