package turn_test

import (
	"math/rand/v2"
	"slices"
	"testing"

	"staddle/api"
	"staddle/turn"
)

// askSearch compares the plans of a barn with the least numbers of turnings and sacks, and with the number of places.
func askSearch(t *testing.T, b turn.Barn, fewest, sacks, places int, want api.Errno) {
	t.Helper()
	if n, e := turn.Fewest(b); n != fewest || e != want {
		t.Error(b, "is made right by", n, "turnings", e, "and should be by", fewest, want)
	}
	p, e := turn.Plan(b)
	if bins, _, _, f := done(b, p); len(p) != fewest || e != want || f != api.OK || e == api.OK && !right(b, bins) {
		t.Error(b, "is made right by", p, e, f, "and should be by", fewest, "turnings", want)
	}
	q, n, e := turn.Lightest(b)
	if bins, _, m, f := done(b, q); n != sacks || m != sacks || e != want || f != api.OK || e == api.OK && !right(b, bins) || e != api.OK && len(q) > 0 {
		t.Error(b, "is made right by", q, "with", n, "sacks", e, f, "and should be with", sacks, want)
	}
	if n, e := turn.Places(b); n != places || e != api.OK {
		t.Error("the lots of", b, "can lie in", n, "ways", e, "and should in", places)
	}
}

func TestSearchInTheExamples(t *testing.T) {
	away := three(50)
	away.Lots[2].To = 3
	free := three(50)
	free.Lots[2].To = anywhere
	askSearch(t, three(50), 3, 70, 24, api.OK)
	askSearch(t, three(25), 3, 70, 12, api.OK)
	askSearch(t, three(15), 0, 0, 1, api.ErrClash)
	askSearch(t, three(), 0, 0, 1, api.ErrClash)
	askSearch(t, free, 3, 70, 24, api.OK)
	askSearch(t, away, 4, 110, 24, api.OK)
	askSearch(t, three(50, 50), 3, 70, 60, api.OK)
}

func TestSearchInOtherBarns(t *testing.T) {
	askSearch(t, turn.Barn{Sizes: list(0)}, 0, 0, 1, api.OK)
	askSearch(t, turn.Barn{Sizes: list(5), Lots: []turn.Lot{lot(5, 0, 0)}}, 0, 0, 1, api.OK)
	askSearch(t, turn.Barn{Sizes: list(5), Lots: []turn.Lot{lot(5, 0, anywhere)}}, 0, 0, 1, api.OK)
	askSearch(t, turn.Barn{Sizes: list(5, 4), Lots: []turn.Lot{lot(5, 0, 0)}}, 0, 0, 1, api.OK)
	askSearch(t, turn.Barn{Sizes: list(5, 5), Lots: []turn.Lot{lot(5, 0, 1)}}, 1, 5, 2, api.OK)
	askSearch(t, light(7, 0, 1, 2, 3, 4, 5), 0, 0, 5040, api.OK)
	askSearch(t, light(7, 1, 2, 3, 4, 5, 0), 7, 7, 5040, api.OK)
	askSearch(t, light(7, 1, 0, 3, 2, 5, 4), 9, 9, 5040, api.OK)
	askSearch(t, light(7, 5, anywhere, 0, 1, 3, 2), 7, 7, 5040, api.OK)
	askSearch(t, light(7, 6, 0, 1, 2, 3, 4), 6, 6, 5040, api.OK)
	askSearch(t, light(7, 1, 2, 3, 4, 0), 6, 6, 2520, api.OK)
	// Lot 2 stands where lot 0 must go through, and has to come back.
	askSearch(t, turn.Barn{Sizes: list(9, 9, 9, 5), Lots: []turn.Lot{lot(9, 0, 1), lot(9, 1, 0), lot(5, 2, 2)}}, 5, 37, 12, api.OK)
	// Two rings that each need a bin which is not free: lot 2 must go out of its bin, where it should be, and come back.
	askSearch(t, turn.Barn{Sizes: list(1, 3, 4, 1, 4, 2), Lots: []turn.Lot{lot(4, 4, 2), lot(1, 0, 3), lot(2, 1, 1), lot(3, 2, 4), lot(1, 3, 0)}}, 8, 17, 48, api.OK)
	// A light lot that is turned twice is less than a heavy one.
	askSearch(t, turn.Barn{Sizes: list(50, 50, 50, 50), Lots: []turn.Lot{lot(50, 0, 1), lot(1, 1, 2), lot(1, 2, 0)}}, 4, 53, 24, api.OK)
	// Lot 1 can wait in bin 3, or go out of the way into bin 2, which is more turnings and fewer sacks.
	askSearch(t, turn.Barn{Sizes: list(50, 50, 10, 50, 1), Lots: []turn.Lot{lot(50, 0, 1), lot(10, 1, anywhere), lot(3, 2, anywhere), lot(1, 4, 3)}}, 4, 67, 36, api.OK)
	// Two heavy lots change places through the bin of a light one, which goes to two small bins before.
	askSearch(t, turn.Barn{Sizes: list(200, 200, 200, 1, 1), Lots: []turn.Lot{lot(200, 0, 1), lot(100, 1, 0), lot(1, 2, 3), lot(1, 3, 4)}}, 5, 402, 36, api.OK)
}

// TestSearchByAllPlaces goes through all ways in which the lots of small barns could lie.
func TestSearchByAllPlaces(t *testing.T) {
	errors := map[api.Errno]int{}
	more, heavier, long := 0, 0, 0
	trials(t, 500, func(r *rand.Rand, b turn.Barn) {
		fewest, sacks := cheapest(b, 1, one), cheapest(b, 1, sacksOf(b))
		want := api.OK
		if fewest == far {
			fewest, sacks, want = 0, 0, api.ErrClash
		}
		_, at := costs(b, 1, one)
		reached := 0
		for _, n := range at {
			if n < far {
				reached++
			}
		}
		askSearch(t, b, fewest, sacks, reached, want)
		p, _ := turn.Plan(b)
		if n, _ := turn.Sacks(b, p); n > sacks {
			heavier++
		}
		if want == api.OK && fewest > len(mustTurn(b))+len(ringsOf(b)) {
			more++
		}
		if fewest > 5 {
			long++
		}
		errors[want]++
	})
	if errors[api.OK] < 100 || errors[api.ErrClash] < 100 || more < 10 || heavier < 20 || long < 3 {
		t.Error("the errors are", errors, "and", more, "need more than must be turned,", heavier, "plans are not the lightest,", long, "are long")
	}
}

// reachedIn says by how few turnings a barn is made right, from the lots as they lie on, and how many ways there are in which
// they can lie. It is for barns that have too many for all to be compared with one another.
func reachedIn(b turn.Barn) (fewest, places int) {
	type key [turn.MaxLots]int
	keyOf := func(bins []int) key { var k key; copy(k[:], bins); return k }
	at := map[key]int{keyOf(in(b)): 0}
	fewest = far
	for waiting := lists(in(b)); len(waiting) > 0; waiting = waiting[1:] {
		bins := waiting[0]
		n := at[keyOf(bins)]
		if right(b, bins) {
			fewest = min(fewest, n)
		}
		for _, x := range canBe(b, bins) {
			next := slices.Clone(bins)
			next[x.Lot] = x.To
			if _, known := at[keyOf(next)]; !known {
				at[keyOf(next)] = n + 1
				waiting = append(waiting, next)
			}
		}
	}
	return fewest, len(at)
}

// TestSearchInGreatBarns has bins and lots up to the limits.
func TestSearchInGreatBarns(t *testing.T) {
	r := rand.New(rand.NewPCG(5, 6))
	longest, clashes := 0, 0
	for range 150 {
		b := turn.Barn{}
		crowd(r, &b, 6+r.IntN(2))
		fewest, places := reachedIn(b)
		n, e := turn.Fewest(b)
		p, f := turn.Plan(b)
		bins, _, _, g := done(b, p)
		if e != f || g != api.OK || e == api.OK && (n != fewest || len(p) != fewest || !right(b, bins)) || e != api.OK && (fewest != far || e != api.ErrClash) {
			t.Error(b, "is made right by", n, p, e, f, g, "and should be by", fewest)
		}
		if got, e := turn.Places(b); got != places || e != api.OK {
			t.Error("the lots of", b, "can lie in", got, "ways", e, "and should in", places)
		}
		if longest = max(longest, n); e != api.OK {
			clashes++
		}
	}
	if longest < 8 || clashes < 10 || clashes > 100 {
		t.Error("the longest plan has", longest, "turnings, and", clashes, "clash")
	}
}
