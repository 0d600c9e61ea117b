package book_test

import (
	"math/rand/v2"
	"slices"
	"strings"
	"testing"

	"staddle/api"
	"staddle/book"
)

func TestMerge(t *testing.T) {
	long := strings.Repeat("x", api.MaxBytes)
	for _, x := range []struct {
		name, a, b, want string
		e                api.Errno
	}{
		{"all that can be", "a?c?e", "ab??x", "abc??", api.OK}, {"nothing", "", "", "", api.OK}, {"torn bytes", "???", "???", "???", api.OK}, {"the same text", grainText, grainText, grainText, api.OK}, {"other bytes alone", "abcdef", "uvwxyz", "??????", api.OK},
		{"other bytes of runes", "é", "è", "\xc3?", api.OK}, {"bytes of no runes", "\xff\x00?", "?\x00\xfe", "\xff\x00\xfe", api.OK}, {"a torn byte of a rune", "é?", "?\xa9?", "é?", api.OK}, {"the longest texts", long, long, long, api.OK}, {"the longest texts that differ", long, long[1:] + "y", long[1:] + "?", api.OK},
		{"a longer one", "ab", "abc", "", api.ErrMany}, {"a shorter one", "abc", "ab", "", api.ErrMany}, {"one and none", "a", "", "", api.ErrMany}, {"none and one", "", "?", "", api.ErrMany}, {"the longest one and a shorter one", long, long[1:], "", api.ErrMany},
		{"one that is too long", long + "x", "abc", "", api.ErrLong}, {"another one that is too long", "abc", long + "x", "", api.ErrLong}, {"two that are too long", long + "x", long + "x", "", api.ErrLong},
	} {
		if got, e := book.Merge(x.a, x.b); got != x.want || e != x.e {
			t.Errorf("%s: Merge returns %.20q %v, and should return %.20q %v", x.name, got, e, x.want, x.e)
		}
		if got, e := book.Merge(x.b, x.a); got != x.want || e != x.e {
			t.Errorf("%s, turned round: Merge returns %.20q %v, and should return %.20q %v", x.name, got, e, x.want, x.e)
		}
	}
}

func TestMergeByTheWords(t *testing.T) {
	r := rand.New(rand.NewPCG(5, 5))
	some := func(n int) string {
		text := make([]byte, n)
		for k := range text {
			text[k] = "ab?\xc3\xa9\x00"[r.IntN(6)]
		}
		return string(text)
	}
	for range 1000 {
		n := r.IntN(12)
		a, b := some(n), some(n)
		want := ""
		for k := range n {
			switch {
			case a[k] == b[k] || b[k] == '?':
				want += a[k : k+1]
			case a[k] == '?':
				want += b[k : k+1]
			default:
				want += "?"
			}
		}
		if got, e := book.Merge(a, b); got != want || e != api.OK {
			t.Errorf("Merge of %q and %q returns %q %v, and should return %q", a, b, got, e, want)
		}
	}
}

func TestDiffer(t *testing.T) {
	corrected := of(form(2, 3, 2), row(12, 5), struck(100, 40), struck(7, 0), row(90, 41))
	other := of(form(2, 3, 2), struck(12, 5), row(100, 40), struck(7, 0), row(0, 0))
	for _, x := range []struct {
		name string
		a, b book.Book
		want []int
		e    api.Errno
	}{
		{"the same", grain(), grain(), nil, api.OK}, {"no rows", of(form(2, 1)), of(form(2, 1)), nil, api.OK}, {"a corrected one", grain(), corrected, list(1, 3), api.OK}, {"one that is struck in another row", other, grain(), list(0, 3), api.OK}, {"one that differs in more", other, corrected, list(0, 1, 3), api.OK},
		{"rows of one alone", of(form(2, 1)), of(form(2, 1), row(1), row(2)), list(0, 1), api.OK}, {"a number", grain(), but(func(b *book.Book) { b.Rows[2].Numbers[1] = 1 }), list(2), api.OK}, {"a row before the others", of(form(2, 1), row(1), row(2)), of(form(2, 1), row(0), row(1), row(2)), list(0, 1, 2), api.OK}, {"all 12 rows", full(), of(form(6, 1)), list(0, 1, 2, 3, 4, 5, 6, 7, 8, 9, 10, 11), api.OK},
		{"more lines on a page", of(form(2, 1)), of(form(3, 1)), nil, api.ErrClash}, {"a column more", of(form(2, 1)), of(form(2, 1, 1)), nil, api.ErrClash}, {"a wider column", of(form(2, 1, 2)), of(form(2, 1, 1)), nil, api.ErrClash}, {"columns turned round", of(form(2, 1, 2)), of(form(2, 2, 1)), nil, api.ErrClash},
		{"two lines that are not allowed", of(form(9, 1)), of(form(9, 1)), nil, api.ErrRange},
	} {
		if got, e := book.Differ(x.a, x.b); !slices.Equal(got, x.want) || e != x.e {
			t.Error(x.name, ": Differ returns", got, e, "and should return", x.want, x.e)
		}
		if got, e := book.Differ(x.b, x.a); !slices.Equal(got, x.want) || e != x.e {
			t.Error(x.name, ", turned round: Differ returns", got, e, "and should return", x.want, x.e)
		}
	}
	for _, x := range []struct {
		name string
		a, b book.Book
		e    api.Errno
	}{
		{"the first error first", of(form(9, 1)), of(form(2)), api.ErrRange}, {"the other one first", of(form(2)), of(form(9, 1)), api.ErrMany}, {"the error of the second one", grain(), of(form(2)), api.ErrMany}, {"an error before other forms", grain(), of(form(2, 1), row(10)), api.ErrRange}, {"an error of the first one before other forms", of(form(2, 1), row(1, 1)), grain(), api.ErrMany},
	} {
		if got, e := book.Differ(x.a, x.b); len(got) > 0 || e != x.e {
			t.Error(x.name, ": Differ returns", got, e, "and should return", x.e)
		}
	}
}

func TestDifferByTheWords(t *testing.T) {
	differ := 0
	trials(t, 300, func(r *rand.Rand, b book.Book, _ string) {
		other := copyBook(b)
		other.Rows = other.Rows[:r.IntN(len(other.Rows)+1)]
		for k := range other.Rows {
			switch r.IntN(6) {
			case 0:
				other.Rows[k] = someRow(r, b.Form)
			case 1:
				other.Rows[k].Struck = !other.Rows[k].Struck
			}
		}
		var want []int
		for k := range b.Rows {
			if k >= len(other.Rows) || !sameRow(b.Rows[k], other.Rows[k]) {
				want = append(want, k)
			}
		}
		differ += len(want)
		for range 2 {
			if got, e := book.Differ(b, other); !slices.Equal(got, want) || e != api.OK {
				t.Error("Differ of", b, "and", other, "returns", got, e, "and should return", want)
			}
			b, other = other, b
		}
	})
	if differ < 1000 {
		t.Error("just", differ, "rows differ")
	}
}
