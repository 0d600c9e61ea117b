package hand_test

import (
	"math"
	"math/rand/v2"
	"slices"
	"testing"

	"staddle/api"
	"staddle/hand"
)

func TestStretchesOfTheExamples(t *testing.T) {
	for _, x := range []struct {
		w           hand.Watch
		s           hand.Stretch
		booked, gap int
		there       []int
	}{
		{shared(14), part(0, 1), -2, 0, list(0, 1)},
		{shared(14), part(1, 2), 0, 0, list(1)},
		{shared(14), part(2, 3), 10, 11, list(1, 2)},
		{shared(14), part(0, 2), -2, 2, list(0, 1)},
		{shared(14), part(1, 3), 10, 15, list(1, 2)},
		{shared(14), part(0, 3), 8, 17, list(0, 1, 2)},
		{shared(12), part(2, 3), 10, 11, list(2)},
		{shared(12), part(1, 2), 0, 0, list(1)},
		{own(), part(0, 1), -2, 0, list(2)},
		{own(), part(1, 2), 0, 0, nil},
		{own(), part(0, 3), 8, 17, list(2)},
		{late(), part(3, 4), 0, 70 - 2 - 75, nil},
	} {
		n, e := hand.Booked(x.w, x.s)
		gap, f := hand.Gap(x.w, x.s)
		there, g := hand.There(x.w, x.s)
		if n != x.booked || gap != x.gap || !slices.Equal(there, x.there) || e != api.OK || f != api.OK || g != api.OK {
			t.Error(x.w, x.s, "is", n, e, gap, f, there, g, "and should be", x.booked, x.gap, x.there)
		}
	}
}

func TestErrorsOfStretches(t *testing.T) {
	for _, x := range []struct {
		s hand.Stretch
		e api.Errno
	}{
		{part(0, 3), api.OK}, {part(2, 3), api.OK},
		{part(0, 4), api.ErrNot}, {part(4, 5), api.ErrNot}, {part(4, 0), api.ErrNot}, {part(4, 4), api.ErrNot},
		{part(-1, 2), api.ErrNot}, {part(2, -1), api.ErrNot}, {part(-1, -1), api.ErrNot},
		{part(math.MinInt, 0), api.ErrNot}, {part(0, math.MaxInt), api.ErrNot},
		{part(0, 0), api.ErrOrder}, {part(3, 3), api.ErrOrder}, {part(3, 0), api.ErrOrder}, {part(2, 1), api.ErrOrder},
	} {
		n, e := hand.Booked(shared(14), x.s)
		gap, f := hand.Gap(shared(14), x.s)
		there, g := hand.There(shared(14), x.s)
		if e != x.e || f != x.e || g != x.e || e != api.OK && (n != 0 || gap != 0 || len(there) > 0) {
			t.Error(x.s, "is", n, e, gap, f, there, g, "and should have error", x.e)
		}
	}
}

// TestBookingsBelongToTheIntervalThatTheyEnd has bookings at hours of counts, and right before and after them.
func TestBookingsBelongToTheIntervalThatTheyEnd(t *testing.T) {
	w := hand.Watch{Hours: 12, Hands: 1, Counts: []hand.Count{count(2, 9, 9), count(5, 9, 9), count(9, 9, 9)}}
	for hour := range 13 {
		want := list(0, 0, 0)
		if hour > 2 && hour <= 5 {
			want = list(7, 0, 7)
		}
		if hour > 5 && hour <= 9 {
			want = list(0, 7, 7)
		}
		w.Bookings = []hand.Booking{booking(hour, 7)}
		var got []int
		for _, s := range parts(part(0, 1), part(1, 2), part(0, 2)) {
			n, _ := hand.Booked(w, s)
			gap, _ := hand.Gap(w, s)
			if n != gap {
				t.Error("of hour", hour, n, "is booked, but the gap is", gap)
			}
			got = append(got, n)
		}
		if !slices.Equal(got, want) {
			t.Error("a booking of hour", hour, "belongs to", got, "and should belong to", want)
		}
	}
}

// TestHandsAreThereByPartsOfAnHour has all spells around an interval from hour 3 to hour 5.
func TestHandsAreThereByPartsOfAnHour(t *testing.T) {
	for from := range 8 {
		for to := from + 1; to <= 8; to++ {
			w := hand.Watch{Hours: 8, Hands: 2, Counts: []hand.Count{count(3, 9, 9), count(5, 9, 9)}, Spells: []hand.Spell{spell(1, from, to)}}
			var want []int
			if from < 5 && to > 3 {
				want = list(1)
			}
			if got, e := hand.There(w, part(0, 1)); !slices.Equal(got, want) || e != api.OK {
				t.Error("by a spell from", from, "to", to, "there is", got, e, "and should be", want)
			}
		}
	}
}

func TestStretchesByWords(t *testing.T) {
	triedAny(t, 150, func(r *rand.Rand, w hand.Watch) {
		for _, s := range allParts(w) {
			var want []int
			for who := range w.Hands {
				if someThere(w, list(who), s) {
					want = append(want, who)
				}
			}
			n, e := hand.Booked(w, s)
			gap, f := hand.Gap(w, s)
			there, g := hand.There(w, s)
			if n != bookedOf(w, s) || gap != gapOf(w, s) || !slices.Equal(there, want) || e != api.OK || f != api.OK || g != api.OK {
				t.Error(w, s, "is", n, e, gap, f, there, g, "and should be", bookedOf(w, s), gapOf(w, s), want)
			}
		}
	})
}

func TestShortOfTheExamples(t *testing.T) {
	all := parts(part(0, 2), part(0, 3), part(1, 3), part(2, 3))
	lone := hand.Watch{Hours: 1, Hands: 1, Counts: []hand.Count{count(0, 5, 9)}}
	for _, x := range []struct {
		name            string
		w               hand.Watch
		short, smallest []hand.Stretch
	}{
		{"example 1", shared(14), all, parts(part(0, 2), part(2, 3))},
		{"without spells", four(), all, parts(part(0, 2), part(2, 3))},
		{"example 5", late(), parts(part(0, 2), part(0, 3), part(0, 4), part(1, 3), part(1, 4), part(2, 3), part(2, 4)), parts(part(0, 2), part(2, 3))},
		{"2 allowed", but(allowOf(2)), parts(part(1, 3), part(2, 3)), parts(part(2, 3))},
		{"20 allowed", but(allowOf(20)), nil, nil},
		{"one sack more there", but(countIs(2, 12, 80, 86)), parts(part(0, 3), part(1, 3), part(2, 3)), parts(part(2, 3))},
		{"one count", lone, nil, nil},
	} {
		short, e := hand.Short(x.w)
		smallest, f := hand.Smallest(x.w)
		if !slices.Equal(short, x.short) || !slices.Equal(smallest, x.smallest) || e != api.OK || f != api.OK {
			t.Error(x.name, "has short", short, e, "and smallest", smallest, f, "and should have", x.short, x.smallest)
		}
	}
}

func TestShortByWords(t *testing.T) {
	several := 0
	triedAny(t, 150, func(r *rand.Rand, w hand.Watch) {
		short, e := hand.Short(w)
		smallest, f := hand.Smallest(w)
		if !slices.Equal(short, shortOf(w)) || !slices.Equal(smallest, smallestOf(w)) || e != api.OK || f != api.OK || !areInOrder(short) || !areInOrder(smallest) {
			t.Error(w, "has short", short, e, "and smallest", smallest, f, "and should have", shortOf(w), smallestOf(w))
		}
		if len(smallest) > 1 && len(short) > len(smallest) {
			several++
		}
	})
	if several < 200 {
		t.Error("just", several, "watches have several smallest stretches, and others")
	}
}

func TestClashesOfTheExamples(t *testing.T) {
	more := late()
	more.Counts[4].Sacks = span(71, 75)
	for _, x := range []struct {
		name string
		w    hand.Watch
		want hand.Stretch
		e    api.Errno
	}{
		{"example 2", shared(14), part(0, 0), api.ErrNone},
		{"example 3", shared(12), part(0, 0), api.ErrNone},
		{"example 4", own(), part(0, 0), api.ErrNone},
		{"example 5", late(), part(3, 4), api.OK},
		{"71 at hour 22", more, part(0, 0), api.ErrNone},
		{"without spells", four(), part(0, 2), api.OK},
		{"with a spell at the beginning", four(spell(0, 0, 1)), part(1, 3), api.OK},
		{"with a spell in the midst", four(spell(0, 6, 12)), part(2, 3), api.OK},
		{"with a spell after the last count", four(spell(0, 20, 24)), part(0, 2), api.OK},
		{"more than was there from the beginning", but(countIs(1, 6, 101, 102)), part(0, 1), api.OK},
		{"as much as was there from the beginning", but(countIs(1, 6, 100, 102)), part(0, 0), api.ErrNone},
	} {
		if got, e := hand.Clashes(x.w); got != x.want || e != x.e {
			t.Error(x.name, "clashes by", got, e, "and should by", x.want, x.e)
		}
	}
}

func TestClashesByWords(t *testing.T) {
	more, less := 0, 0
	triedAny(t, 200, func(r *rand.Rand, w hand.Watch) {
		want, clashes := clashOf(w)
		e := api.ErrNone
		if clashes {
			e = api.OK
		}
		if got, f := hand.Clashes(w); got != want || e != f || agrees(w) == clashes {
			t.Error(w, "clashes by", got, f, "and should by", want, e, "; there is a truth:", agrees(w))
		}
		if clashes && gapOf(w, want) > 0 {
			less++
		} else if clashes {
			more++
		}
	})
	if more < 50 || less < 50 {
		t.Error("just", more, "watches clash as there is more, and", less, "as there is less")
	}
}

func TestWithinOfTheExamples(t *testing.T) {
	all := hand.Watch{Hours: 1, Hands: 1, Counts: []hand.Count{count(0, 500, 500), count(1, 0, 500)}, Spells: []hand.Spell{spell(0, 0, 1)}}
	for _, x := range []struct {
		name  string
		w     hand.Watch
		count int
		want  api.Span
		e     api.Errno
	}{
		{"example 2", shared(14), 0, span(100, 102), api.OK},
		{"example 2", shared(14), 3, span(70, 71), api.OK},
		{"nobody before hour 6", four(spell(0, 6, 20)), 0, span(100, 100), api.OK},
		{"nobody before hour 6", four(spell(0, 6, 20)), 1, span(92, 92), api.OK},
		{"nobody before hour 6", four(spell(0, 6, 20)), 2, span(80, 84), api.OK},
		{"nobody from hour 6 to hour 12", four(spell(0, 0, 6), spell(1, 12, 20)), 1, span(90, 90), api.OK},
		{"nobody from hour 6 to hour 12", four(spell(0, 0, 6), spell(1, 12, 20)), 2, span(84, 84), api.OK},
		{"a wide count between two others", but(countIs(1, 6, 0, 500)), 1, span(80, 100), api.OK},
		{"a wide count, with nobody before hour 6", with(four(spell(1, 6, 20)), 1, 0, 500), 1, span(92, 100), api.OK},
		{"all that can lie there", all, 0, span(500, 500), api.OK},
		{"all that can lie there is gone", all, 1, span(0, 500), api.OK},
		{"without spells", four(), 0, span(0, 0), api.ErrClash},
		{"example 5", late(), 3, span(0, 0), api.ErrClash},
		{"example 5, count 5", late(), 5, span(0, 0), api.ErrNot},
		{"count 4", shared(14), 4, span(0, 0), api.ErrNot},
		{"count -1", shared(14), -1, span(0, 0), api.ErrNot},
		{"the last count of all", shared(14), math.MaxInt, span(0, 0), api.ErrNot},
		{"one count", hand.Watch{Hours: 1, Hands: 1, Counts: []hand.Count{count(1, 0, 500)}}, 0, span(0, 500), api.OK},
	} {
		if got, e := hand.Within(x.w, x.count); got != x.want || e != x.e {
			t.Error(x.name, "count", x.count, "is within", got, e, "and should be within", x.want, x.e)
		}
	}
}

func TestWithinByAllNumbers(t *testing.T) {
	narrow := 0
	tried(t, 40, func(r *rand.Rand, w hand.Watch) {
		for k, c := range w.Counts {
			want := withinOf(w, k)
			if got, e := hand.Within(w, k); got != want || e != api.OK {
				t.Error(w, k, "is within", got, e, "and should be within", want)
			}
			if c.Sacks.Lo < want.Lo {
				narrow++
			}
			if want.Hi < c.Sacks.Hi {
				narrow++
			}
		}
	})
	if narrow < 200 {
		t.Error("just", narrow, "ends are narrower than they were counted")
	}
}
