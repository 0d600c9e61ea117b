package book_test

import (
	"math/rand/v2"
	"strings"
	"testing"

	"staddle/api"
	"staddle/book"
)

// books are books with their texts and the sums at their feet.
var books = []struct {
	name  string
	b     book.Book
	text  string
	foots [][]int
}{
	{"the example", grain(), grainText, [][]int{list(112, 45), list(112, 45)}},
	{"its first two rows", of(form(2, 3, 2), row(12, 5), row(100, 40)), grainText[:33], [][]int{list(112, 45)}},
	{"no rows", of(form(2, 3, 2)), "=    0|   0|\n", [][]int{list(0, 0)}},
	{"one row", of(form(1, 1), row(5)), " 5|f\n=  5|\n", [][]int{list(5)}},
	{"a row of nothing", of(form(6, 2), row(0)), "  0|a\n=   0|\n", [][]int{list(0)}},
	{"a struck row", of(form(3, 4), struck(1234)), "-1234|s\n=     0|\n", [][]int{list(0)}},
	{"two pages of one row", of(form(1, 1), row(9), row(9)), " 9|j\n=  9|\n+  9|\n 9|j\n= 18|\n", [][]int{list(9), list(18)}},
	{"a struck row on the second page", of(form(1, 1), row(9), struck(9), row(1)), " 9|j\n=  9|\n+  9|\n-9|u\n=  9|\n+  9|\n 1|b\n= 10|\n", [][]int{list(9), list(9), list(10)}},
	{"a struck row of nothing", of(form(1, 1), struck(0)), "-0|l\n=  0|\n", [][]int{list(0)}},
	{"12 of the greatest numbers", of(form(6, 1), row(9), row(9), row(9), row(9), row(9), row(9), row(9), row(9), row(9), row(9), row(9), row(9)),
		strings.Repeat(" 9|j\n", 6) + "= 54|\n+ 54|\n" + strings.Repeat(" 9|j\n", 6) + "=108|\n", [][]int{list(54), list(108)}},
}

func TestPrint(t *testing.T) {
	for _, x := range books {
		got, e := book.Print(x.b)
		if got != x.text || e != api.OK {
			t.Errorf("the text of %s is %q %v, and should be %q", x.name, got, e, x.text)
		}
		foots, e := book.Foots(x.b)
		if !sameLists(foots, x.foots) || e != api.OK {
			t.Error("at the feet of", x.name, "is", foots, e, "and should be", x.foots)
		}
	}
	b := of(form(5, 4, 4, 4, 4))
	for range 12 {
		b.Rows = append(b.Rows, row(9999, 9999, 9999, 9999))
	}
	got, e := book.Print(b)
	if last := "=119988|119988|119988|119988|\n"; !strings.HasSuffix(got, last) || e != api.OK {
		t.Errorf("the greatest sums are in %q %v", got, e)
	}
	if foots, e := book.Foots(b); len(foots) != 3 || foots[2][3] != 119988 || foots[1][0] != 99990 || e != api.OK {
		t.Error("the greatest sums are", foots, e)
	}
}

// footsOf are the sums at the feet of all pages, by the words of the chapter.
func footsOf(b book.Book) [][]int {
	var all [][]int
	for first := 0; first < len(b.Rows) || first == 0; first += b.Form.Lines {
		var foot []int
		for column := range b.Form.Widths {
			foot = append(foot, sumOf(b, column, min(first+b.Form.Lines, len(b.Rows))))
		}
		all = append(all, foot)
	}
	return all
}

func TestPrintByTheWords(t *testing.T) {
	pages, gone := map[int]int{}, 0
	trials(t, 500, func(_ *rand.Rand, b book.Book, text string) {
		if got, e := book.Print(b); got != text || e != api.OK {
			t.Errorf("the text of %v is %q %v, and should be %q", b, got, e, text)
		}
		want := footsOf(b)
		if got, e := book.Foots(b); !sameLists(got, want) || e != api.OK {
			t.Error("at the feet of", b, "is", got, e, "and should be", want)
		}
		pages[len(want)]++
		for _, r := range b.Rows {
			if r.Struck {
				gone++
			}
		}
	})
	for n := range 12 {
		if n < 6 && pages[n+1] < 20 || n == 11 && pages[12] < 20 {
			t.Error("so many books have so many pages:", pages)
		}
	}
	if gone < 1000 {
		t.Error("just", gone, "rows are struck")
	}
}
