package book_test

import (
	"math"
	"math/rand/v2"
	"slices"
	"strings"
	"testing"

	"staddle/api"
	"staddle/book"
)

// others are arguments beside a book, or beside a form.
type others struct {
	row   int
	r     book.Row
	other book.Book
	text  string
}

// call is a function with its other arguments as they are given, and says what it returns: a text of its result, and whether this
// is zero.
type call[T any] struct {
	name string
	do   func(of T) (result string, zero bool, e api.Errno)
}

// numbered are some numbers as a text.
func numbered(numbers ...int) string {
	text := ""
	for _, n := range numbers {
		text += string(rune('0' + n))
	}
	return text
}

// told is a book as a text.
func told(b book.Book) string {
	text := numbered(b.Form.Widths...) + ":" + numbered(b.Form.Lines)
	for _, r := range b.Rows {
		text += ";" + numbered(r.Numbers...)
		if r.Struck {
			text += "-"
		}
	}
	return text
}

// calls are all functions that take a book but Check.
func calls(o others) []call[book.Book] {
	whole := func(do func(b book.Book) (book.Book, api.Errno)) func(b book.Book) (string, bool, api.Errno) {
		return func(b book.Book) (string, bool, api.Errno) { more, e := do(b); return told(more), isZero(more), e }
	}
	return []call[book.Book]{
		{"Foots", func(b book.Book) (string, bool, api.Errno) {
			foots, e := book.Foots(b)
			return numbered(slices.Concat(foots...)...), len(foots) == 0, e
		}},
		{"Print", func(b book.Book) (string, bool, api.Errno) { s, e := book.Print(b); return s, s == "", e }},
		{"Put", whole(func(b book.Book) (book.Book, api.Errno) { return book.Put(b, o.r) })},
		{"Strike", whole(func(b book.Book) (book.Book, api.Errno) { return book.Strike(b, o.row) })},
		{"Correct", whole(func(b book.Book) (book.Book, api.Errno) { return book.Correct(b, o.row, o.r) })},
		{"Differ", func(b book.Book) (string, bool, api.Errno) {
			rows, e := book.Differ(b, o.other)
			return numbered(rows...), len(rows) == 0, e
		}},
	}
}

// formCalls are all functions that take a form but CheckForm. With an error Parse returns the index of a byte, too.
func formCalls(o others) []call[book.Form] {
	return []call[book.Form]{
		{"Letter", func(f book.Form) (string, bool, api.Errno) { s, e := book.Letter(f, o.r); return s, s == "", e }},
		{"Parse", func(f book.Form) (string, bool, api.Errno) {
			b, n, e := book.Parse(f, o.text)
			return told(b) + numbered(n), isZero(b) && (n == 0 || e == api.ErrForm), e
		}},
		{"Count", func(f book.Form) (string, bool, api.Errno) {
			n, e := book.Count(f, o.text)
			return numbered(n), n == 0, e
		}},
		{"Fillings", func(f book.Form) (string, bool, api.Errno) {
			first, e := book.Fillings(f, o.text)
			return strings.Join(first, ";"), len(first) == 0, e
		}},
		{"Restore", func(f book.Form) (string, bool, api.Errno) {
			b, e := book.Restore(f, o.text)
			return told(b), isZero(b), e
		}},
	}
}

// strange are arguments that are not allowed, for which each call that takes one has an error of its own.
func strange() others {
	return others{row: 99, r: row(), other: book.Book{}, text: strings.Repeat("?", api.MaxBytes+1)}
}

// allowed are arguments that are allowed for the book of the chapter's examples, and for its form.
func allowed() others { return others{row: 1, r: row(90, 41), other: grain(), text: grainText} }

// changed returns arguments that are allowed, changed.
func changed(change func(o *others)) others {
	o := allowed()
	change(&o)
	return o
}

type errors = map[string]api.Errno

// askAll says which calls have another error than they should have, or one and another result than zero.
func askAll[T any](t *testing.T, name string, of T, calls []call[T], want func(call string) api.Errno) {
	t.Helper()
	for _, call := range calls {
		_, zero, e := call.do(of)
		if e != want(call.name) || e != api.OK && !zero {
			t.Error(name, ":", call.name, "has error", e, "and should have", want(call.name), "; its result is zero:", zero)
		}
	}
}

func TestErrorsOfFormsAndBooksComeFirst(t *testing.T) {
	for _, o := range []others{strange(), allowed(), {}} {
		for _, x := range []struct {
			f book.Form
			e api.Errno
		}{
			{form(2), api.ErrMany}, {form(0, 1, 1, 1, 1, 9), api.ErrMany}, {form(2, 3, 0), api.ErrRange}, {form(2, 5, 2), api.ErrRange}, {form(7, 3, 2), api.ErrRange}, {form(0, 3, 2), api.ErrRange},
		} {
			askAll(t, "a form", x.f, formCalls(o), func(string) api.Errno { return x.e })
			askAll(t, "a book of a form", of(x.f, row(1)), calls(o), func(string) api.Errno { return x.e })
		}
		for _, x := range []struct {
			b book.Book
			e api.Errno
		}{
			{of(form(6, 1), sevens(13)...), api.ErrMany}, {but(func(b *book.Book) { b.Rows[1] = row(1) }), api.ErrMany}, {but(func(b *book.Book) { b.Rows[1] = row(1, 100) }), api.ErrRange}, {but(func(b *book.Book) { b.Rows[2] = struck(-1, 0) }), api.ErrRange},
			{of(form(6, 1), append(sevens(11), row(10))...), api.ErrRange},
		} {
			askAll(t, "a book", x.b, calls(o), func(string) api.Errno { return x.e })
		}
	}
}

func TestErrorsInOrder(t *testing.T) {
	const no, many, out, twice, none, clash, fullUp, long, wrong = api.ErrNot, api.ErrMany, api.ErrRange, api.ErrTwice, api.ErrNone, api.ErrClash, api.ErrFull, api.ErrLong, api.ErrForm
	for _, x := range []struct {
		name string
		b    book.Book
		o    others
		want errors
	}{
		{"allowed", grain(), allowed(), nil},
		{"strange", grain(), strange(), errors{"Put": many, "Strike": no, "Correct": no, "Differ": many}},
		{"strange, and full", full(), strange(), errors{"Put": fullUp, "Strike": no, "Correct": no, "Differ": many}},
		{"a row that is struck", grain(), changed(func(o *others) { o.row, o.r = 2, row() }), errors{"Put": many, "Strike": twice, "Correct": twice}},
		{"a row with a number that is too great", grain(), changed(func(o *others) { o.r = row(1000, 0) }), errors{"Put": out, "Correct": out}},
		{"a full book", full(), changed(func(o *others) { o.r = row(10) }), errors{"Put": fullUp, "Correct": fullUp, "Differ": clash}},
		{"no rows", of(form(2, 3, 2)), changed(func(o *others) { o.row = 0 }), errors{"Strike": no, "Correct": no}},
	} {
		askAll(t, x.name, x.b, calls(x.o), func(call string) api.Errno { return x.want[call] })
	}
	for _, x := range []struct {
		name string
		o    others
		want errors
	}{
		{"allowed", allowed(), nil},
		{"strange", strange(), errors{"Letter": many, "Parse": long, "Count": long, "Fillings": long, "Restore": long}},
		{"nothing", others{}, errors{"Letter": many, "Parse": wrong, "Restore": none}},
		{"a number that is too great, and torn bytes", changed(func(o *others) { o.r, o.text = row(1, 100), torn(grainText, 1, 2, 3, 4, 5) }), errors{"Letter": out, "Parse": wrong, "Count": fullUp, "Fillings": fullUp, "Restore": fullUp}},
		{"fewer torn bytes", changed(func(o *others) { o.text = torn(grainText, 4, 7, 33, 45) }), errors{"Parse": wrong}},
		{"several fillings", changed(func(o *others) { o.text = "-  ?| 0|?\n=    0|   0|\n" }), errors{"Parse": wrong, "Restore": clash}},
	} {
		askAll(t, x.name, form(2, 3, 2), formCalls(x.o), func(call string) api.Errno { return x.want[call] })
	}
}

// roomFor returns a list with room for more beyond its end.
func roomFor[T any](l []T) []T { return append(make([]T, 0, len(l)+20), l...) }

func roomInRow(r book.Row) book.Row {
	return book.Row{Numbers: roomFor(r.Numbers), Struck: r.Struck}
}

// roomIn returns a book whose lists have room for more.
func roomIn(b book.Book) book.Book {
	b.Form.Widths, b.Rows = roomFor(b.Form.Widths), roomFor(b.Rows)
	for k := range b.Rows {
		b.Rows[k] = roomInRow(b.Rows[k])
	}
	return b
}

// isBare says whether a list has nothing beyond its end.
func isBare[T any](l []T, isZero func(x T) bool) bool {
	return !slices.ContainsFunc(l[len(l):cap(l)], func(x T) bool { return !isZero(x) })
}

func isNothing(n int) bool { return n == 0 }

func isBareRow(r book.Row) bool { return isBare(r.Numbers, isNothing) }

// isBareBook says whether the lists of a book have nothing beyond their ends.
func isBareBook(b book.Book) bool {
	for _, r := range b.Rows {
		if !isBareRow(r) {
			return false
		}
	}
	return isBare(b.Form.Widths, isNothing) && isBare(b.Rows, func(r book.Row) bool { return r.Numbers == nil && !r.Struck })
}

func TestNothingIsChangedAndNothingIsKept(t *testing.T) {
	trials(t, 100, func(r *rand.Rand, b book.Book, text string) {
		o := others{row: r.IntN(13), r: roomInRow(someRow(r, b.Form)), other: roomIn(someBook(r, b.Form, 7)), text: torn(text, some(r, r.IntN(4), min(20, len(text)))...)}
		o0 := others{row: o.row, r: copyRow(o.r), other: copyBook(o.other), text: strings.Clone(o.text)}
		b0 := copyBook(b)
		b = roomIn(b)
		f, f0 := roomIn(b).Form, copyForm(b.Form)
		same := func(name, one, other string, e, g api.Errno) {
			if one != other || e != g {
				t.Errorf("%s returns something else when it is asked again: %q %v %q %v", name, one, e, other, g)
			}
			if !sameBook(b, b0) || !sameForm(f, f0) || !sameRow(o.r, o0.r) || !sameBook(o.other, o0.other) || o.text != o0.text {
				t.Error(name, "changes an argument")
			}
			if !isBareBook(b) || !isBareBook(o.other) || !isBareRow(o.r) || !isBareBook(of(f)) {
				t.Error(name, "writes beyond the end of an argument")
			}
		}
		for k, call := range calls(o) {
			one, _, e := call.do(b)
			other, _, g := calls(o0)[k].do(b0)
			same(call.name, one, other, e, g)
		}
		for k, call := range formCalls(o) {
			one, _, e := call.do(f)
			other, _, g := formCalls(o0)[k].do(f0)
			same(call.name, one, other, e, g)
		}
	})
	bytes := roomFor(list(3, 1, 2))
	if got, e := book.Tear("abcd", bytes); got != "a???" || e != api.OK || !slices.Equal(bytes, list(3, 1, 2)) || !isBare(bytes, isNothing) {
		t.Error("Tear changes its bytes:", bytes, got, e)
	}
}

// spoilBook writes over all lists of a book, beyond their ends too.
func spoilBook(b book.Book) {
	for k := range b.Rows {
		r := &b.Rows[k]
		for i := range r.Numbers[:cap(r.Numbers)] {
			r.Numbers[:cap(r.Numbers)][i] += 100
		}
		r.Struck = !r.Struck
	}
	for i := range b.Form.Widths[:cap(b.Form.Widths)] {
		b.Form.Widths[:cap(b.Form.Widths)][i] += 100
	}
	clear(b.Rows[len(b.Rows):cap(b.Rows)])
}

// TestBooksShareNoMemory writes over what a book came from, and over the book.
func TestBooksShareNoMemory(t *testing.T) {
	for name, make := range map[string]func(b book.Book, r book.Row) (book.Book, api.Errno){
		"Put":     func(b book.Book, r book.Row) (book.Book, api.Errno) { return book.Put(b, r) },
		"Strike":  func(b book.Book, _ book.Row) (book.Book, api.Errno) { return book.Strike(b, 1) },
		"Correct": func(b book.Book, r book.Row) (book.Book, api.Errno) { return book.Correct(b, 1, r) },
		"Parse": func(b book.Book, _ book.Row) (book.Book, api.Errno) {
			got, _, e := book.Parse(b.Form, grainText)
			return got, e
		},
		"Restore": func(b book.Book, _ book.Row) (book.Book, api.Errno) { return book.Restore(b.Form, torn(grainText, 3)) },
	} {
		b, r := roomIn(grain()), roomInRow(row(90, 41))
		made, e := make(b, r)
		was := copyBook(made)
		spoilBook(b)
		spoilBook(of(form(1), r))
		if e != api.OK || !sameBook(made, was) {
			t.Error(name, "returns a book that shares memory with what it came from:", made, e)
		}
		b, r = roomIn(grain()), roomInRow(row(90, 41))
		made, _ = make(b, r)
		spoilBook(made)
		if !sameBook(b, grain()) || !sameRow(r, row(90, 41)) || !isBareBook(b) || !isBareRow(r) {
			t.Error(name, "takes what shares memory with the book that came from it:", b, r)
		}
		made, _ = make(roomIn(grain()), row(90, 41))
		was = copyBook(made)
		for k := range made.Rows {
			clear(made.Rows[k].Numbers[:cap(made.Rows[k].Numbers)])
			clear(was.Rows[k].Numbers)
			if !sameBook(made, was) {
				t.Error(name, "returns a book whose rows share memory:", made)
			}
		}
	}
}

func TestSumsShareNoMemory(t *testing.T) {
	b := grain()
	foots, _ := book.Foots(b)
	clear(foots[0][:cap(foots[0])])
	if want := [][]int{list(0, 0), list(112, 45)}; !sameLists(foots, want) {
		t.Error("the sums at the feet share memory:", foots)
	}
	if again, e := book.Foots(b); !sameLists(again, [][]int{list(112, 45), list(112, 45)}) || e != api.OK {
		t.Error("Foots returns", again, e, "when it is asked again")
	}
	one := of(form(1, 1), row(1))
	rows, _ := book.Differ(one, of(form(1, 1)))
	rows[0] = 99
	first, _ := book.Fillings(form(1, 1), " ?|?\n=  ?|\n")
	first[0] = "x"
	if again, e := book.Differ(one, of(form(1, 1))); !slices.Equal(again, list(0)) || e != api.OK {
		t.Error("Differ returns", again, e, "when it is asked again")
	}
	if again, e := book.Fillings(form(1, 1), " ?|?\n=  ?|\n"); again[0] != " 0|a\n=  0|\n" || e != api.OK {
		t.Error("Fillings returns", again, e, "when it is asked again")
	}
}

func TestNilListsAreAsEmptyOnes(t *testing.T) {
	empty := []book.Row{}
	for _, x := range []struct{ a, b book.Book }{
		{of(form(2, 1)), of(form(2, 1), empty...)}, {book.Book{Form: book.Form{Lines: 2}}, of(form(2, list()...), empty...)}, {of(form(2, 1), book.Row{}), of(form(2, 1), row(list()...))},
	} {
		for _, o := range []others{allowed(), strange(), {other: x.a}, {other: x.b, r: row(1)}} {
			for _, call := range calls(o) {
				one, _, e := call.do(x.a)
				other, _, g := call.do(x.b)
				if one != other || e != g {
					t.Error(call.name, "returns another result for empty lists:", one, e, other, g)
				}
			}
			for _, call := range formCalls(o) {
				one, _, e := call.do(x.a.Form)
				other, _, g := call.do(x.b.Form)
				if one != other || e != g {
					t.Error(call.name, "returns another result for empty lists:", one, e, other, g)
				}
			}
		}
	}
	if got, e := book.Tear("abc", list()); got != "abc" || e != api.OK {
		t.Error("Tear of no bytes returns", got, e)
	}
}

// TestAnyArguments calls everything with numbers that are seldom allowed, and texts of any bytes.
func TestAnyArguments(t *testing.T) {
	r := rand.New(rand.NewPCG(7, 12))
	all := list(math.MinInt, math.MinInt+1, -1, 0, 4, 5, 6, 7, 9, 10, 99, 100, 9999, 10000, math.MaxInt-1, math.MaxInt)
	number := func(below int) int {
		if r.IntN(30) > 0 {
			return r.IntN(below)
		}
		return all[r.IntN(len(all))]
	}
	numbers := func(n, below int) []int {
		var some []int
		for range n {
			some = append(some, number(below))
		}
		return some
	}
	fine := 0
	for range 10000 {
		columns := r.IntN(6)
		b := of(book.Form{Widths: numbers(columns, 5), Lines: number(7)})
		for range r.IntN(14) {
			b.Rows = append(b.Rows, book.Row{Numbers: numbers(columns+r.IntN(20)/19, 10), Struck: r.IntN(2) == 0})
		}
		text := make([]byte, r.IntN(12))
		for k := range text {
			text[k] = (known + "??????\xff\x00\xc3\xa9")[r.IntN(len(known)+10)]
		}
		o := others{row: number(12), r: row(numbers(columns, 10)...), other: of(b.Form, row(numbers(columns, 10)...)), text: string(text)}
		for _, call := range calls(o) {
			if _, zero, e := call.do(b); e != api.OK && !zero {
				t.Error(call.name, "has a result beside error", e)
			}
		}
		for _, call := range formCalls(o) {
			if _, zero, e := call.do(b.Form); e != api.OK && !zero {
				t.Error(call.name, "has a result beside error", e)
			}
		}
		if got, e := book.Tear(o.text, numbers(r.IntN(3), 12)); e != api.OK && got != "" {
			t.Error("Tear has a result beside error", e)
		}
		if got, e := book.Merge(o.text, string(text[:len(text)-r.IntN(len(text)+1)/10])); e != api.OK && got != "" {
			t.Error("Merge has a result beside error", e)
		}
		if book.Check(b) == api.OK {
			fine++
		}
	}
	if fine < 1000 || fine > 9000 {
		t.Error(fine, "books are allowed")
	}
}
