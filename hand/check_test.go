package hand_test

import (
	"math"
	"math/rand/v2"
	"slices"
	"testing"

	"staddle/api"
	"staddle/hand"
)

func TestConstants(t *testing.T) {
	got := list(hand.MaxHours, hand.MaxAllow, hand.MaxHands, hand.MaxSacks, hand.MaxCounts, hand.MaxBooked, hand.MaxBookings, hand.MaxSpells)
	if want := list(60, 20, 6, 500, 8, 200, 10, 12); !slices.Equal(got, want) {
		t.Error("the constants are", got, "and should be", want)
	}
}

// setting is a change of the watch of example 2.
type setting func(w *hand.Watch)

func handsOf(n int) setting { return func(w *hand.Watch) { w.Hands = n } }

func hoursOf(n int) setting { return func(w *hand.Watch) { w.Hours = n } }

func allowOf(n int) setting { return func(w *hand.Watch) { w.Allow = n } }

func countIs(k, hour, lo, hi int) setting {
	return func(w *hand.Watch) { w.Counts[k] = count(hour, lo, hi) }
}

func bookingIs(k, hour, sacks int) setting {
	return func(w *hand.Watch) { w.Bookings[k] = booking(hour, sacks) }
}

func spellIs(k, who, from, to int) setting {
	return func(w *hand.Watch) { w.Spells[k] = spell(who, from, to) }
}

// countsOf gives so many counts, one at each hour.
func countsOf(n int) setting {
	return func(w *hand.Watch) {
		w.Counts = nil
		for k := range n {
			w.Counts = append(w.Counts, count(k, 5, 5))
		}
	}
}

func bookingsOf(n int) setting {
	return func(w *hand.Watch) { w.Bookings = slices.Repeat([]hand.Booking{booking(4, 1)}, n) }
}

func spellsOf(n int) setting {
	return func(w *hand.Watch) { w.Spells = slices.Repeat([]hand.Spell{spell(2, 3, 4)}, n) }
}

func TestCheckAtTheLimits(t *testing.T) {
	const many, out, no, order = api.ErrMany, api.ErrRange, api.ErrNot, api.ErrOrder
	for _, x := range []struct {
		name   string
		change setting
		want   api.Errno
	}{
		{"example 2", func(w *hand.Watch) {}, api.OK}, {"all that is allowed", func(w *hand.Watch) { *w = full() }, api.OK}, {"nothing", func(w *hand.Watch) { *w = hand.Watch{} }, many},
		{"no hands", handsOf(0), many}, {"six hands", handsOf(6), api.OK}, {"seven hands", handsOf(7), many}, {"-1 hands", handsOf(-1), many}, {"the most hands of all", handsOf(math.MaxInt), many}, {"the fewest hands of all", handsOf(math.MinInt), many},
		{"one hand", func(w *hand.Watch) { w.Hands, w.Spells = 1, nil }, api.OK},
		{"no counts", countsOf(0), many}, {"one count", countsOf(1), api.OK}, {"eight counts", countsOf(8), api.OK}, {"nine counts", countsOf(9), many},
		{"no bookings", bookingsOf(0), api.OK}, {"ten bookings", bookingsOf(10), api.OK}, {"eleven bookings", bookingsOf(11), many},
		{"no spells", spellsOf(0), api.OK}, {"twelve spells", spellsOf(12), api.OK}, {"thirteen spells", spellsOf(13), many},
		{"no hours", hoursOf(0), out}, {"60 hours", hoursOf(60), api.OK}, {"61 hours", hoursOf(61), out}, {"-1 hours", hoursOf(-1), out}, {"the most hours of all", hoursOf(math.MaxInt), out},
		{"one hour", func(w *hand.Watch) {
			*w = hand.Watch{Hours: 1, Hands: 1, Counts: []hand.Count{count(0, 1, 1), count(1, 1, 1)}}
		}, api.OK},
		{"no hours, with nothing else but a count", func(w *hand.Watch) { *w = hand.Watch{Hands: 1, Counts: []hand.Count{count(0, 1, 1)}} }, out},
		{"nothing allowed", allowOf(0), api.OK}, {"20 allowed", allowOf(20), api.OK}, {"21 allowed", allowOf(21), out}, {"-1 allowed", allowOf(-1), out}, {"the least allowed of all", allowOf(math.MinInt), out},
		{"a count at the last hour", countIs(3, 24, 5, 5), api.OK}, {"a count at hour 25", countIs(3, 25, 5, 5), out}, {"a count at hour -1", countIs(0, -1, 5, 5), out}, {"a count at the last hour of all", countIs(3, math.MaxInt, 5, 5), out},
		{"a count of none", countIs(3, 20, 0, 0), api.OK}, {"a count of any number", countIs(3, 20, 0, 500), api.OK}, {"a count of 500", countIs(3, 20, 500, 500), api.OK}, {"a count of up to 501", countIs(3, 20, 0, 501), out}, {"a count from -1 on", countIs(3, 20, -1, 5), out}, {"a count from 501 down to 500", countIs(3, 20, 501, 500), out}, {"a count from 0 down to -1", countIs(3, 20, 0, -1), out},
		{"a booking at hour 0", bookingIs(1, 0, 5), api.OK}, {"a booking at the last hour", bookingIs(1, 24, 5), api.OK}, {"a booking at hour 25", bookingIs(1, 25, 5), out}, {"a booking at hour -1", bookingIs(0, -1, 5), out},
		{"a booking of 0", bookingIs(1, 3, 0), out}, {"a booking of 200", bookingIs(1, 3, 200), api.OK}, {"a booking of -200", bookingIs(1, 3, -200), api.OK}, {"a booking of 201", bookingIs(0, 3, 201), out}, {"a booking of -201", bookingIs(1, 3, -201), out}, {"a booking of the least number of all", bookingIs(1, 3, math.MinInt), out},
		{"a spell of all hours", spellIs(2, 1, 0, 24), api.OK}, {"a spell of an hour", spellIs(2, 1, 23, 24), api.OK}, {"a spell to hour 25", spellIs(2, 1, 5, 25), out}, {"a spell from hour -1", spellIs(0, 1, -1, 5), out}, {"a spell from hour 25 back", spellIs(2, 1, 25, 3), out}, {"a spell to hour -1", spellIs(2, 1, 3, -1), out},
		{"a spell of the last hand", spellIs(2, 2, 3, 4), api.OK}, {"a spell of hand 3", spellIs(2, 3, 3, 4), no}, {"a spell of hand -1", spellIs(0, -1, 3, 4), no}, {"a spell of the last hand of all", spellIs(2, math.MaxInt, 3, 4), no},
		{"the same spell again", spellIs(2, 0, 0, 6), api.OK}, {"a spell without an hour", spellIs(2, 1, 5, 5), order}, {"a spell back", spellIs(0, 1, 6, 5), order},
		{"two counts at an hour", countIs(1, 0, 5, 5), order}, {"the last two counts at an hour", countIs(3, 12, 5, 5), order}, {"a count before the one before it", countIs(2, 5, 5, 5), order},
		{"a count of 6 to 5", countIs(3, 20, 6, 5), order}, {"a first count of 500 to 0", countIs(0, 0, 500, 0), order}, {"a count that clashes", countIs(3, 20, 500, 500), api.OK},
		{"bookings in any order", func(w *hand.Watch) { slices.Reverse(w.Bookings) }, api.OK}, {"spells in any order", func(w *hand.Watch) { slices.Reverse(w.Spells) }, api.OK},
	} {
		if e := hand.Check(but(x.change)); e != x.want {
			t.Error(x.name, "has error", e, "and should have", x.want)
		}
	}
}

// TestCheckInOrder has errors of which the first one that the chapter names is to be returned.
func TestCheckInOrder(t *testing.T) {
	many := []setting{handsOf(7), func(w *hand.Watch) { w.Counts = slices.Repeat(w.Counts, 3) }, func(w *hand.Watch) { w.Bookings = slices.Repeat(w.Bookings, 6) }, func(w *hand.Watch) { w.Spells = slices.Repeat(w.Spells, 5) }}
	out := []setting{hoursOf(61), allowOf(-1), countIs(3, 61, 5, 5), countIs(3, 1, 5, 501), bookingIs(1, 61, 5), bookingIs(1, 5, 0), spellIs(2, 3, 9, 61), spellIs(2, 3, -1, 0)}
	no := []setting{spellIs(0, 7, 3, 3), spellIs(1, -1, 3, 4)}
	order := []setting{countIs(1, 0, 5, 5), countIs(2, 12, 5, 4), spellIs(2, 0, 4, 4)}
	groups := [][]setting{many, out, no, order}
	for first, want := range []api.Errno{api.ErrMany, api.ErrRange, api.ErrNot, api.ErrOrder} {
		for _, change := range groups[first] {
			w := shared(14)
			for _, group := range groups[first+1:] {
				for _, other := range group {
					other(&w)
				}
			}
			change(&w)
			if e := hand.Check(w); e != want {
				t.Error(w, "has error", e, "and should have", want)
			}
			w = but(change)
			if e := hand.Check(w); e != want {
				t.Error(w, "has error", e, "and should have", want, "alone")
			}
		}
	}
}

func TestAdd(t *testing.T) {
	eight := but(countsOf(8))
	seven := but(countsOf(7))
	for _, x := range []struct {
		name string
		w    hand.Watch
		c    hand.Count
		at   int
		e    api.Errno
	}{
		{"a last count", shared(14), count(24, 1, 2), 4, api.OK},
		{"a count right after the last one", shared(14), count(21, 1, 2), 4, api.OK},
		{"a count right before the last one", shared(14), count(19, 1, 2), 3, api.OK},
		{"a count in the midst", shared(14), count(8, 1, 2), 2, api.OK},
		{"a count right after the first one", shared(14), count(1, 0, 500), 1, api.OK},
		{"a first count", but(countIs(0, 1, 5, 5)), count(0, 1, 2), 0, api.OK},
		{"a count that clashes", shared(14), count(7, 500, 500), 2, api.OK},
		{"the eighth count", seven, count(24, 1, 2), 7, api.OK},
		{"the ninth count", eight, count(24, 1, 2), 0, api.ErrFull},
		{"the ninth count, at the hour of another one", eight, count(1, 501, 2), 0, api.ErrFull},
		{"the ninth count, at hour 25", eight, count(25, 2, 1), 0, api.ErrFull},
		{"a count at the first hour", shared(14), count(0, 1, 2), 0, api.ErrTwice},
		{"a count at the hour of the last one", shared(14), count(20, 501, 2), 0, api.ErrTwice},
		{"the same count", shared(14), count(6, 90, 92), 0, api.ErrTwice},
		{"a count at hour 25", shared(14), count(25, 2, 1), 0, api.ErrRange},
		{"a count at hour -1", shared(14), count(-1, 1, 2), 0, api.ErrRange},
		{"a count at the first hour of all", shared(14), count(math.MinInt, 1, 2), 0, api.ErrRange},
		{"a count of 501", shared(14), count(7, 501, 501), 0, api.ErrRange},
		{"a count of -1", shared(14), count(7, -1, 2), 0, api.ErrRange},
		{"a count of 3 to 2", shared(14), count(7, 3, 2), 0, api.ErrOrder},
	} {
		want := hand.Watch{}
		if x.e == api.OK {
			want = copyWatch(x.w)
			want.Counts = slices.Insert(want.Counts, x.at, x.c)
		}
		if got, e := hand.Add(x.w, x.c); !sameWatch(got, want) || e != x.e {
			t.Error(x.name, "gives", got, e, "and should give", want, x.e)
		}
	}
}

func TestAddKeepsCountsInOrder(t *testing.T) {
	added := 0
	triedAny(t, 100, func(r *rand.Rand, w hand.Watch) {
		c := count(r.IntN(w.Hours+1), r.IntN(9), 9+r.IntN(9))
		at := slices.IndexFunc(w.Counts, func(o hand.Count) bool { return o.Hour >= c.Hour })
		want, e := hand.Watch{}, api.OK
		switch {
		case len(w.Counts) == hand.MaxCounts:
			e = api.ErrFull
		case at >= 0 && w.Counts[at].Hour == c.Hour:
			e = api.ErrTwice
		default:
			want = copyWatch(w)
			if at < 0 {
				at = len(w.Counts)
			}
			want.Counts = slices.Insert(want.Counts, at, c)
			added++
		}
		if got, f := hand.Add(w, c); !sameWatch(got, want) || e != f {
			t.Error(w, c, "gives", got, f, "and should give", want, e)
		}
	})
	if added < 300 {
		t.Error("just", added, "counts are added")
	}
}
