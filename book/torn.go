package book

import (
	"strings"

	"staddle/api"
)

// filler finds the fillings of torn texts of a form.
type filler struct {
	form Form
	// do is called with one filling after the other, in their order, as long as it asks for more.
	do func(filling string) (more bool)
}

// fill finds the fillings of a torn text.
func (f filler) fill(torn string) {
	var follow func(r reader, filled, left string) (more bool)
	follow = func(r reader, filled, left string) bool {
		whole, behind, isTorn := strings.Cut(left, string(Torn))
		r, n := r.read(whole)
		filled += whole
		switch {
		case n < len(whole):
			return true
		case !isTorn:
			return !r.isRight() || f.do(filled)
		}
		for c := range r.next() {
			if !follow(r.after(c), filled+string(c), behind) {
				return false
			}
		}
		return true
	}
	follow(reader{Form: f.form}, "", torn)
}

// fillings returns the first fillings of a torn text, at most so many.
func (f Form) fillings(text string, most int) []string {
	var first []string
	filler{form: f, do: func(filling string) bool {
		first = append(first, filling)
		return len(first) < most
	}}.fill(text)
	return first
}

// Count returns the number of fillings.
func Count(f Form, text string) (int, api.Errno) {
	if e := f.errorOfTorn(text); e != api.OK {
		return 0, e
	}
	n := 0
	filler{form: f, do: func(string) bool {
		n++
		return true
	}}.fill(text)
	return n, api.OK
}

// Fillings returns the first two fillings.
func Fillings(f Form, text string) ([]string, api.Errno) {
	if e := f.errorOfTorn(text); e != api.OK {
		return nil, e
	}
	return f.fillings(text, 2), api.OK
}

// Restore returns the book whose text is the only filling.
func Restore(f Form, text string) (Book, api.Errno) {
	if e := f.errorOfTorn(text); e != api.OK {
		return Book{}, e
	}
	first := f.fillings(text, 2)
	switch len(first) {
	case 0:
		return Book{}, api.ErrNone
	case 1:
		return f.bookOf(first[0]), api.OK
	}
	return Book{}, api.ErrClash
}

// Tear returns a text some bytes of which are torn.
func Tear(text string, bytes []int) (string, api.Errno) {
	if isLong(text) {
		return "", api.ErrLong
	}
	if !every(bytes, func(at int) bool { return within(at, 0, len(text)-1) }) {
		return "", api.ErrNot
	}
	isTorn := map[int]bool{}
	for _, at := range bytes {
		if isTorn[at] {
			return "", api.ErrTwice
		}
		isTorn[at] = true
	}
	torn := []byte(text)
	for at := range torn {
		if isTorn[at] {
			torn[at] = Torn
		}
	}
	return string(torn), api.OK
}
