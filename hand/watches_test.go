package hand_test

import (
	"math/rand/v2"
	"slices"
	"testing"

	"staddle/api"
	"staddle/hand"
)

// kind says of which kind a watch is to be.
type kind struct {
	name                                          string
	hours, allow, hands, counts, bookings, spells int
	key, wide, takes                              int
}

// kinds are all kinds of watches in which there is a truth.
func kinds() []kind {
	return []kind{
		{name: "long", hours: 60, allow: 3, hands: 6, counts: 8, bookings: 10, spells: 12, key: 30, wide: 5, takes: 20},
		{name: "exact", hours: 20, allow: 0, hands: 3, counts: 6, bookings: 3, spells: 5, key: 9, wide: 0, takes: 3},
		{name: "changing hands", hours: 40, allow: 1, hands: 6, counts: 8, bookings: 4, spells: 12, key: 5, wide: 1, takes: 25},
		{name: "in and out", hours: 14, allow: 0, hands: 6, counts: 8, bookings: 2, spells: 10, key: 3, wide: 2, takes: 9},
		{name: "seldom watched", hours: 40, allow: 1, hands: 2, counts: 8, bookings: 4, spells: 3, key: 8, wide: 8, takes: 40},
		{name: "wide", hours: 30, allow: 20, hands: 4, counts: 5, bookings: 6, spells: 6, key: 20, wide: 60, takes: 200},
		{name: "one hand", hours: 24, allow: 1, hands: 1, counts: 8, bookings: 2, spells: 4, key: 6, wide: 3, takes: 12},
	}
}

// most returns a number up to another one, mostly more than half of it.
func most(r *rand.Rand, n int) int {
	if r.IntN(8) == 0 {
		return r.IntN(n + 1)
	}
	return n - r.IntN(n/2+1)
}

// someHours returns so many hours from 0 on, in increasing order.
func someHours(r *rand.Rand, n, hours int) []int {
	all := r.Perm(hours + 1)[:n]
	slices.Sort(all)
	return all
}

// lay gives a watch counts of what lay there, with bounds around it, and says whether that is allowed.
func lay(r *rand.Rand, w *hand.Watch, k kind, hours []int) bool {
	n := 50 + r.IntN(350)
	for i, hour := range hours {
		w.Counts = append(w.Counts, count(hour, 0, 0))
		if i > 0 {
			n += bookedIn(*w, i-1) - r.IntN(allowedIn(*w, i-1)+1)
			if someIn(*w, hands(*w), i-1) && r.IntN(3) > 0 {
				n -= r.IntN(k.takes + 1)
			}
		}
		if n < 0 || n > hand.MaxSacks {
			return false
		}
		w.Counts[i].Sacks = span(max(0, n-r.IntN(k.wide+1)), min(hand.MaxSacks, n+r.IntN(k.wide+1)))
	}
	return true
}

// lived returns a watch of a kind, in which there is a truth.
func lived(r *rand.Rand, k kind) hand.Watch {
	for {
		w := hand.Watch{Hours: max(1, most(r, k.hours)), Allow: r.IntN(k.allow + 1), Hands: max(1, most(r, k.hands))}
		for range most(r, k.bookings) {
			sacks := 1 + r.IntN(40)
			if r.IntN(2) == 0 {
				sacks = -sacks
			}
			w.Bookings = append(w.Bookings, booking(r.IntN(w.Hours+1), sacks))
		}
		for range most(r, k.spells) {
			from := r.IntN(w.Hours)
			w.Spells = append(w.Spells, spell(r.IntN(w.Hands), from, min(w.Hours, from+1+r.IntN(k.key))))
		}
		hours := someHours(r, min(w.Hours+1, max(1, most(r, k.counts))), w.Hours)
		if lay(r, &w, k, hours) {
			return w
		}
	}
}

// moved returns a watch one of whose counts is of other numbers, so that it may clash.
func moved(r *rand.Rand, w hand.Watch) hand.Watch {
	k := r.IntN(len(w.Counts))
	lo := max(0, min(hand.MaxSacks, w.Counts[k].Sacks.Lo+r.IntN(31)-15))
	return with(w, k, lo, min(hand.MaxSacks, lo+r.IntN(4)))
}

// tried calls a function with watches of all kinds, in all of which there is a truth; always the same ones.
func tried(t *testing.T, n int, try func(r *rand.Rand, w hand.Watch)) {
	t.Helper()
	r := rand.New(rand.NewPCG(41, 43))
	for _, k := range kinds() {
		for range n {
			w := lived(r, k)
			if e := hand.Check(w); e != api.OK {
				t.Fatal(w, "should be allowed, but has error", e)
			}
			try(r, w)
			if t.Failed() {
				t.Fatal("it is of kind", k.name)
			}
		}
	}
}

// triedAny calls a function with watches of all kinds, many of which clash.
func triedAny(t *testing.T, n int, try func(r *rand.Rand, w hand.Watch)) {
	t.Helper()
	tried(t, n, func(r *rand.Rand, w hand.Watch) {
		try(r, w)
		try(r, moved(r, w))
	})
}

// someHands returns some hands of a watch, each once, in any order.
func someHands(r *rand.Rand, w hand.Watch) []int { return r.Perm(w.Hands)[:r.IntN(w.Hands+1)] }
