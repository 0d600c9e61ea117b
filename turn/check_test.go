package turn_test

import (
	"math"
	"math/rand/v2"
	"slices"
	"testing"

	"staddle/api"
	"staddle/turn"
)

func TestConstants(t *testing.T) {
	got := list(turn.Anywhere, turn.MaxBins, turn.MaxSacks, turn.MaxLots, turn.MaxGangs, turn.MaxPlan)
	if want := list(-1, 7, 300, 6, 3, 6000); !slices.Equal(got, want) {
		t.Error("the constants are", got, "and should be", want)
	}
}

func TestCheckAtTheLimits(t *testing.T) {
	bins := func(n int) turn.Barn { return turn.Barn{Sizes: slices.Repeat(list(50), n)} }
	lots := func(n int) turn.Barn {
		b := bins(7)
		for k := range n {
			b.Lots = append(b.Lots, lot(1, min(k, 6), anywhere))
		}
		return b
	}
	size := func(n int) turn.Barn { return but(func(b *turn.Barn) { b.Sizes[3] = n }) }
	last := func(l turn.Lot) turn.Barn { return but(func(b *turn.Barn) { b.Lots[2] = l }) }
	for _, x := range []struct {
		name string
		b    turn.Barn
		want api.Errno
	}{
		{"the example", three(50), api.OK}, {"no free bin", three(), api.OK},
		{"one bin", bins(1), api.OK}, {"seven bins", bins(7), api.OK},
		{"nothing at all", turn.Barn{}, api.ErrMany}, {"no bins", bins(0), api.ErrMany}, {"eight bins", bins(8), api.ErrMany}, {"a million bins", bins(1000000), api.ErrMany},
		{"no lots", lots(0), api.OK}, {"six lots", lots(6), api.OK},
		{"seven lots", lots(7), api.ErrMany}, {"eight lots", lots(8), api.ErrMany}, {"a million lots", lots(1000000), api.ErrMany},
		{"size 0", size(0), api.OK}, {"size 300", size(300), api.OK}, {"size -1", size(-1), api.ErrRange}, {"size 301", size(301), api.ErrRange},
		{"the greatest size of all", size(math.MaxInt), api.ErrRange}, {"the least size of all", size(math.MinInt), api.ErrRange},
		{"a bin of size 0 alone", turn.Barn{Sizes: list(0)}, api.OK}, {"a first bin that is too great", turn.Barn{Sizes: list(301, 5)}, api.ErrRange},
		{"1 sack", last(lot(1, 2, 2)), api.OK}, {"a bin full of sacks", last(lot(50, 2, 2)), api.OK},
		{"no sacks", last(lot(0, 2, 2)), api.ErrRange}, {"-1 sacks", last(lot(-1, 2, 2)), api.ErrRange}, {"301 sacks", last(lot(301, 2, 2)), api.ErrRange},
		{"300 sacks in too small a bin", last(lot(300, 2, 2)), api.ErrFull}, {"the most sacks of all", last(lot(math.MaxInt, 2, 2)), api.ErrRange},
		{"300 sacks", turn.Barn{Sizes: list(300), Lots: []turn.Lot{lot(300, 0, 0)}}, api.OK},
		{"in the last bin", last(lot(40, 3, 2)), api.OK}, {"in bin 4", last(lot(40, 4, 2)), api.ErrNot}, {"in bin -1", last(lot(40, -1, 2)), api.ErrNot},
		{"in the greatest bin of all", last(lot(40, math.MaxInt, 2)), api.ErrNot},
		{"to the last bin", last(lot(40, 2, 3)), api.OK}, {"anywhere", last(lot(40, 2, -1)), api.OK}, {"to bin 4", last(lot(40, 2, 4)), api.ErrNot},
		{"to bin -2", last(lot(40, 2, -2)), api.ErrNot}, {"to the least bin of all", last(lot(40, 2, math.MinInt)), api.ErrNot},
		{"two anywhere", but(func(b *turn.Barn) { b.Lots[0].To, b.Lots[2].To = -1, -1 }), api.OK},
		{"all anywhere", light(7, -1, -1, -1, -1, -1, -1), api.OK},
		{"two in a bin", last(lot(40, 0, 2)), api.ErrTwice}, {"two to a bin", last(lot(40, 2, 0)), api.ErrTwice}, {"the last two to a bin", last(lot(40, 2, 0)), api.ErrTwice},
		{"the first two in a bin", but(func(b *turn.Barn) { b.Lots[1].In = 0 }), api.ErrTwice}, {"the last two in a bin", last(lot(40, 1, 2)), api.ErrTwice},
		{"the first two to a bin", but(func(b *turn.Barn) { b.Lots[1].To = 1 }), api.ErrTwice}, {"to a bin in which another one is", last(lot(40, 2, 3)), api.OK},
		{"in a bin that is too small by 1", but(func(b *turn.Barn) { b.Sizes[2] = 39 }), api.ErrFull}, {"in a bin that just holds it", but(func(b *turn.Barn) { b.Sizes[2] = 40 }), api.OK},
		{"in a bin that is too small by 1, to another one", but(func(b *turn.Barn) { b.Sizes[0] = 29 }), api.ErrFull}, {"in a bin that just holds it, to another one", but(func(b *turn.Barn) { b.Sizes[0] = 30 }), api.OK},
		{"in a bin that is too small by 1, anywhere", but(func(b *turn.Barn) { b.Sizes[2], b.Lots[2].To = 39, -1 }), api.ErrFull},
		{"to a bin that is too small by 1", but(func(b *turn.Barn) { b.Sizes[1] = 29 }), api.ErrFull}, {"to a bin that just holds it", but(func(b *turn.Barn) { b.Sizes[1] = 30 }), api.OK},
		{"anywhere, with a small bin", but(func(b *turn.Barn) { b.Sizes[3], b.Lots[2].To = 0, -1 }), api.OK},
		{"more lots than bins", turn.Barn{Sizes: list(5), Lots: []turn.Lot{lot(1, 0, 0), lot(1, 0, -1)}}, api.ErrTwice},
	} {
		if e := turn.Check(x.b); e != x.want {
			t.Error(x.name, "has error", e, "and should have", x.want)
		}
	}
}

// TestCheckInOrder has two errors in each barn, the later one in the first place.
func TestCheckInOrder(t *testing.T) {
	broken := []struct {
		e     api.Errno
		first func(b *turn.Barn)
		last  func(b *turn.Barn)
	}{
		{api.ErrMany, func(b *turn.Barn) { b.Lots = append(b.Lots, make([]turn.Lot, 4)...) }, func(b *turn.Barn) { b.Sizes = append(b.Sizes, list(50, 50, 50, 50)...) }},
		{api.ErrRange, func(b *turn.Barn) { b.Sizes[0] = 301 }, func(b *turn.Barn) { b.Lots[2].Sacks = 0 }},
		{api.ErrNot, func(b *turn.Barn) { b.Lots[0].To = 9 }, func(b *turn.Barn) { b.Lots[2].In = -1 }},
		{api.ErrTwice, func(b *turn.Barn) { b.Lots[0].In = b.Lots[1].In }, func(b *turn.Barn) { b.Lots[2].To = b.Lots[1].To }},
		{api.ErrFull, func(b *turn.Barn) { b.Lots[0].Sacks = 51 }, func(b *turn.Barn) { b.Sizes[2] = 39 }},
	}
	for i, early := range broken {
		for _, late := range broken[i:] {
			b := three(50)
			late.first(&b)
			early.last(&b)
			if e := turn.Check(b); e != early.e {
				t.Error(b, "has error", e, "and should have", early.e)
			}
		}
	}
}

func TestFreeAndHolds(t *testing.T) {
	b := three(25, 40)
	for _, x := range []struct {
		b    turn.Barn
		want []int
	}{
		{b, list(3, 4)}, {three(), nil}, {three(0), list(3)}, {turn.Barn{Sizes: list(0, 300)}, list(0, 1)},
		{turn.Barn{Sizes: list(5, 5, 5), Lots: []turn.Lot{lot(1, 1, 2)}}, list(0, 2)},
	} {
		if got, e := turn.Free(x.b); !slices.Equal(got, x.want) || e != api.OK {
			t.Error("in", x.b, got, "are free, and should be", x.want, e)
		}
	}
	for _, x := range []struct {
		lot  int
		want []int
		e    api.Errno
	}{
		{0, list(0, 1, 2, 4), api.OK}, {1, list(0, 1, 2, 3, 4), api.OK}, {2, list(0, 1, 2, 4), api.OK},
		{3, nil, api.ErrNot}, {-1, nil, api.ErrNot}, {math.MaxInt, nil, api.ErrNot}, {math.MinInt, nil, api.ErrNot},
	} {
		if got, e := turn.Holds(b, x.lot); !slices.Equal(got, x.want) || e != x.e {
			t.Error(got, "hold lot", x.lot, "and should be", x.want, e)
		}
	}
	if got, e := turn.Holds(turn.Barn{Sizes: list(5)}, 0); len(got) != 0 || e != api.ErrNot {
		t.Error(got, "hold a lot that there is not:", e)
	}
}

func TestFreeAndHoldsByTheWords(t *testing.T) {
	trials(t, 200, func(r *rand.Rand, b turn.Barn) {
		var free []int
		for bin := range b.Sizes {
			if !slices.Contains(in(b), bin) {
				free = append(free, bin)
			}
		}
		if got, e := turn.Free(b); !slices.Equal(got, free) || e != api.OK {
			t.Error("in", b, got, "are free, and should be", free, e)
		}
		for k, l := range b.Lots {
			var holds []int
			for bin, size := range b.Sizes {
				if size >= l.Sacks {
					holds = append(holds, bin)
				}
			}
			if got, e := turn.Holds(b, k); !slices.Equal(got, holds) || e != api.OK {
				t.Error("in", b, got, "hold lot", k, "and should be", holds, e)
			}
		}
	})
}

func TestAim(t *testing.T) {
	small := three(39)
	for _, x := range []struct {
		b       turn.Barn
		lot, to int
		e       api.Errno
	}{
		{three(50), 2, 3, api.OK}, {three(50), 2, 2, api.OK}, {three(50), 2, anywhere, api.OK}, {three(50), 0, anywhere, api.OK}, {three(50), 0, 1, api.OK},
		{three(50), 3, 0, api.ErrNot}, {three(50), -1, 9, api.ErrNot}, {three(50), math.MaxInt, 0, api.ErrNot},
		{three(50), 2, 4, api.ErrNot}, {three(50), 2, -2, api.ErrNot}, {three(50), 2, math.MinInt, api.ErrNot},
		{three(50), 2, 0, api.ErrTwice}, {three(50), 0, 2, api.ErrTwice}, {small, 2, 3, api.ErrFull}, {small, 0, 3, api.OK}, {small, 0, 2, api.ErrTwice},
	} {
		was := copyBarn(x.b)
		got, e := turn.Aim(x.b, x.lot, x.to)
		want := turn.Barn{}
		if x.e == api.OK {
			want = copyBarn(was)
			want.Lots[x.lot].To = x.to
		}
		if e != x.e || !sameBarn(got, want) || !sameBarn(x.b, was) {
			t.Error("lot", x.lot, "to", x.to, "makes", got, e, "and should make", want, x.e)
		}
	}
}

// TestAimAsCheckSays aims each lot at each bin.
func TestAimAsCheckSays(t *testing.T) {
	errors := map[api.Errno]int{}
	trials(t, 100, func(r *rand.Rand, b turn.Barn) {
		for k := range b.Lots {
			for aim := -2; aim <= len(b.Sizes); aim++ {
				want := copyBarn(b)
				want.Lots[k].To = aim
				got, e := turn.Aim(b, k, aim)
				if e != turn.Check(want) || e == api.OK && !sameBarn(got, want) || e != api.OK && !sameBarn(got, turn.Barn{}) {
					t.Error("in", b, "lot", k, "to", aim, "makes", got, e)
				}
				errors[e]++
			}
		}
	})
	for _, e := range []api.Errno{api.OK, api.ErrNot, api.ErrTwice, api.ErrFull} {
		if errors[e] < 50 {
			t.Error("just", errors[e], "have error", e)
		}
	}
}
