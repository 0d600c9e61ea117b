package hand_test

import (
	"math"
	"math/rand/v2"
	"slices"
	"testing"

	"staddle/api"
	"staddle/hand"
)

func TestExplainsAndLeftOfTheExamples(t *testing.T) {
	both := parts(part(0, 2), part(2, 3))
	for _, x := range []struct {
		name  string
		w     hand.Watch
		hands []int
		is    bool
		left  []hand.Stretch
		e, f  api.Errno
	}{
		{"example 2", shared(14), list(1), true, nil, api.OK, api.OK},
		{"example 2", shared(14), list(0), false, parts(part(2, 3)), api.OK, api.OK},
		{"example 2", shared(14), list(2), false, parts(part(0, 2)), api.OK, api.OK},
		{"example 2", shared(14), list(2, 0), true, nil, api.OK, api.OK},
		{"example 2", shared(14), list(2, 0, 1), true, nil, api.OK, api.OK},
		{"example 2", shared(14), nil, false, both, api.OK, api.OK},
		{"example 3", shared(12), list(1), false, parts(part(2, 3)), api.OK, api.OK},
		{"example 3", shared(12), list(2, 1), true, nil, api.OK, api.OK},
		{"nothing short", but(allowOf(20)), nil, true, nil, api.OK, api.OK},
		{"without spells", four(), list(2, 1), false, both, api.ErrClash, api.OK},
		{"without spells", four(), nil, false, both, api.ErrClash, api.OK},
		{"a clash as there is more", late(), list(1), false, nil, api.ErrClash, api.OK},
		{"hand 3", shared(14), list(1, 3), false, nil, api.ErrNot, api.ErrNot},
		{"hand 3, and one twice", four(), list(0, 0, 3), false, nil, api.ErrNot, api.ErrNot},
		{"hand -1", four(), list(-1), false, nil, api.ErrNot, api.ErrNot},
		{"the last hand of all", shared(14), list(math.MaxInt), false, nil, api.ErrNot, api.ErrNot},
		{"a hand twice", four(), list(0, 1, 0), false, nil, api.ErrTwice, api.ErrTwice},
		{"a hand twice in a row", shared(14), list(2, 1, 1), false, nil, api.ErrTwice, api.ErrTwice},
	} {
		is, e := hand.Explains(x.w, x.hands)
		left, f := hand.Left(x.w, x.hands)
		if is != x.is || !slices.Equal(left, x.left) || e != x.e || f != x.f {
			t.Error(x.name, x.hands, "explain it:", is, e, "; left are", left, f, "and should be", x.is, x.e, x.left, x.f)
		}
	}
}

func TestExplainsByAllTruths(t *testing.T) {
	yes, no, clashing := 0, 0, 0
	triedAny(t, 60, func(r *rand.Rand, w hand.Watch) {
		for _, some := range append(listsOf(min(w.Hands, 3)), someHands(r, w)) {
			left := slices.DeleteFunc(smallestOf(w), func(s hand.Stretch) bool { return someThere(w, some, s) })
			want, e := hasTruth(w, some), api.OK
			if !agrees(w) {
				want, e = false, api.ErrClash
				clashing++
			}
			is, f := hand.Explains(w, some)
			got, g := hand.Left(w, some)
			if is != want || e != f || !slices.Equal(got, left) || g != api.OK {
				t.Error(w, "is explained by", some, ":", is, f, "and should be", want, e, "; left are", got, g, "and should be", left)
			}
			if is {
				yes++
			} else if f == api.OK {
				no++
			}
		}
	})
	if yes < 500 || no < 500 || clashing < 500 {
		t.Error("hands explain", yes, "times, and do not", no, "times, and", clashing, "watches clash")
	}
}

// who is what the functions tell of the hands of a watch, and of stretches that are apart.
type who struct {
	few, must, can []int
	apart          []hand.Stretch
	e              api.Errno
}

func TestWhoOfTheExamples(t *testing.T) {
	exact := hand.Watch{Hours: 9, Hands: 2, Counts: []hand.Count{count(0, 5, 5), count(4, 5, 5), count(8, 5, 5)}, Spells: []hand.Spell{spell(0, 0, 9), spell(1, 0, 4)}}
	loose := hand.Watch{Hours: 9, Allow: 2, Hands: 2, Counts: []hand.Count{count(0, 5, 5), count(4, 4, 5), count(8, 3, 4)}, Spells: []hand.Spell{spell(0, 3, 4), spell(1, 8, 9)}}
	// In ring there are three short intervals, in each of which there are two of three hands.
	ring := hand.Watch{Hours: 3, Hands: 3, Counts: []hand.Count{count(0, 9, 9), count(1, 6, 6), count(2, 3, 3), count(3, 0, 0)},
		Spells: []hand.Spell{spell(0, 0, 2), spell(1, 1, 3), spell(2, 0, 1), spell(2, 2, 3)}}
	// In pairs the first and the last hand do as well as the two in between.
	pairs := hand.Watch{Hours: 4, Hands: 4, Counts: []hand.Count{count(0, 9, 9), count(1, 6, 6), count(2, 6, 6), count(3, 6, 6), count(4, 3, 3)},
		Spells: []hand.Spell{spell(3, 3, 4), spell(1, 0, 1), spell(2, 3, 4), spell(0, 0, 1)}}
	// In middle the stretch in the midst is not apart from the others.
	middle := hand.Watch{Hours: 3, Hands: 2, Counts: []hand.Count{count(0, 9, 9), count(1, 6, 6), count(2, 3, 3), count(3, 0, 0)},
		Spells: []hand.Spell{spell(0, 0, 2), spell(1, 1, 3)}}
	// In choice the first stretch is apart from each of the two others, which are not apart.
	choice := hand.Watch{Hours: 3, Hands: 2, Counts: middle.Counts, Spells: []hand.Spell{spell(1, 0, 1), spell(0, 1, 3)}}
	for _, x := range []struct {
		name string
		w    hand.Watch
		want who
	}{
		{"example 2", shared(14), who{list(1), nil, list(0, 1, 2), parts(part(0, 2)), api.OK}},
		{"example 3", shared(12), who{list(0, 2), list(2), list(0, 1, 2), parts(part(0, 2), part(2, 3)), api.OK}},
		{"example 4", own(), who{list(2), list(2), list(2), parts(part(0, 2)), api.OK}},
		{"example 5", late(), who{nil, nil, nil, parts(part(0, 2)), api.ErrClash}},
		{"without spells", four(), who{nil, nil, nil, parts(part(0, 2), part(2, 3)), api.ErrClash}},
		{"nothing short", but(allowOf(20)), who{nil, nil, list(0, 1, 2), nil, api.OK}},
		{"nothing gone", exact, who{nil, nil, nil, nil, api.OK}},
		{"nothing but what is allowed", loose, who{nil, nil, list(0), nil, api.OK}},
		{"ring", ring, who{list(0, 1), nil, list(0, 1, 2), parts(part(0, 1)), api.OK}},
		{"pairs", pairs, who{list(0, 2), nil, list(0, 1, 2, 3), parts(part(0, 1), part(3, 4)), api.OK}},
		{"middle", middle, who{list(0, 1), list(0, 1), list(0, 1), parts(part(0, 1), part(2, 3)), api.OK}},
		{"choice", choice, who{list(0, 1), list(0, 1), list(0, 1), parts(part(0, 1), part(1, 2)), api.OK}},
		{"one count", hand.Watch{Hours: 1, Hands: 1, Counts: []hand.Count{count(1, 0, 500)}, Spells: []hand.Spell{spell(0, 0, 1)}}, who{nil, nil, nil, nil, api.OK}},
	} {
		few, e := hand.Fewest(x.w)
		must, f := hand.Must(x.w)
		can, g := hand.Can(x.w)
		apart, h := hand.Apart(x.w)
		if !slices.Equal(few, x.want.few) || !slices.Equal(must, x.want.must) || !slices.Equal(can, x.want.can) || !slices.Equal(apart, x.want.apart) || e != x.want.e || f != x.want.e || g != x.want.e || h != api.OK {
			t.Error(x.name, "is of", few, e, must, f, can, g, apart, h, "and should be of", x.want)
		}
	}
}

func TestFewestAndMustByAllLists(t *testing.T) {
	several, needed := 0, 0
	triedAny(t, 100, func(r *rand.Rand, w hand.Watch) {
		few, e := hand.Fewest(w)
		must, f := hand.Must(w)
		if !agrees(w) {
			if e != api.ErrClash || f != api.ErrClash || len(few) > 0 || len(must) > 0 {
				t.Error(w, "clashes, but is explained by", few, e, "and not without", must, f)
			}
			return
		}
		var explain [][]int
		for _, l := range listsOf(w.Hands) {
			if hasTruth(w, l) {
				explain = append(explain, l)
			}
		}
		var want []int
		for who := range w.Hands {
			if !slices.ContainsFunc(explain, func(l []int) bool { return !slices.Contains(l, who) }) {
				want = append(want, who)
			}
		}
		if !slices.Equal(few, explain[0]) || !slices.Equal(must, want) || e != api.OK || f != api.OK {
			t.Error(w, "is explained by", few, e, "and not without", must, f, "and should be by", explain[0], "and not without", want)
		}
		if len(few) > 1 {
			several++
		}
		needed += len(must)
	})
	if several < 60 || needed < 100 {
		t.Error("just", several, "watches need several hands, and", needed, "hands are needed")
	}
}

func TestCanByAllNumbers(t *testing.T) {
	can, cannot := 0, 0
	triedAny(t, 100, func(r *rand.Rand, w hand.Watch) {
		var want []int
		e := api.ErrClash
		if agrees(w) {
			e = api.OK
			for who := range w.Hands {
				if canOf(w, who) {
					want = append(want, who)
				} else if someThere(w, list(who), part(0, len(w.Counts)-1)) {
					cannot++
				}
			}
		}
		if got, f := hand.Can(w); !slices.Equal(got, want) || f != e {
			t.Error(w, "can be by", got, f, "and should be able to be by", want, e)
		}
		can += len(want)
	})
	if can < 200 || cannot < 50 {
		t.Error("just", can, "hands can have taken something, and", cannot, "cannot who were there")
	}
}

func TestApartByAllLists(t *testing.T) {
	several, open := 0, 0
	triedAny(t, 150, func(r *rand.Rand, w hand.Watch) {
		want := apartOf(w)
		if got, e := hand.Apart(w); !slices.Equal(got, want) || e != api.OK {
			t.Error(w, "has apart", got, e, "and should have", want)
		}
		if len(want) > 1 {
			several++
			if len(want) < len(smallestOf(w)) {
				open++
			}
		}
	})
	if several < 150 || open < 25 {
		t.Error("just", several, "watches have several stretches that are apart, and", open, "others beside them")
	}
}
