package heat_test

import (
	"math"
	"math/rand/v2"
	"slices"
	"testing"

	"staddle/api"
	"staddle/heat"
)

// but returns the barn of the examples with two bins, changed.
func but(change func(b *heat.Barn)) heat.Barn {
	b := barn(2)
	change(&b)
	return b
}

// only returns a barn with one bin.
func only(one heat.Bin) heat.Barn {
	b := barn(1)
	b.Bins[0] = one
	return b
}

// rising returns a barn with other rises.
func rising(rise ...int) heat.Barn {
	b := barn(2)
	copy(b.Rise[:], rise)
	return b
}

func TestCheckAtTheLimits(t *testing.T) {
	bins := func(n int) heat.Barn { return but(func(b *heat.Barn) { b.Bins = slices.Repeat(b.Bins[:1], n) }) }
	cool := func(n int) heat.Barn { return but(func(b *heat.Barn) { b.Cool = n }) }
	gangs := func(n int) heat.Barn { return but(func(b *heat.Barn) { b.Gangs = n }) }
	for _, x := range []struct {
		name string
		b    heat.Barn
		want api.Errno
	}{
		{"one bin", bins(1), api.OK}, {"four bins", bins(4), api.OK},
		{"no bins", bins(0), api.ErrMany}, {"nothing at all", heat.Barn{}, api.ErrMany}, {"five bins", bins(5), api.ErrMany},
		{"Cool 0", cool(0), api.OK}, {"Cool 60", cool(60), api.OK},
		{"Cool -1", cool(-1), api.ErrRange}, {"Cool 61", cool(61), api.ErrRange}, {"the most Cool of all", cool(math.MaxInt), api.ErrRange},
		{"no gangs", gangs(0), api.OK}, {"three gangs", gangs(3), api.OK},
		{"gangs -1", gangs(-1), api.ErrRange}, {"four gangs", gangs(4), api.ErrRange},
		{"no rises", rising(0, 0, 0, 0, 0, 0), api.OK}, {"the least rises", rising(6, 6, 6, 6, 6, 6), api.OK},
		{"the greatest rises", rising(20, 20, 20, 20, 20, 20), api.OK}, {"all kinds of rises", rising(0, 6, 6, 7, 19, 20), api.OK},
		{"a first rise of 5", rising(5, 6, 6, 6, 6, 6), api.ErrRange}, {"a first rise of 1", rising(1, 6, 6, 6, 6, 6), api.ErrRange},
		{"a first rise of -1", rising(-1, 6, 6, 6, 6, 6), api.ErrRange}, {"a last rise of 21", rising(0, 6, 6, 6, 6, 21), api.ErrRange},
		{"a last rise that is less", rising(0, 6, 6, 8, 8, 7), api.ErrOrder}, {"a second rise that is less", rising(6, 0, 6, 6, 6, 6), api.ErrOrder},
		{"a rise in the middle that is less", rising(0, 6, 8, 7, 8, 9), api.ErrOrder},
		{"Mark 0", only(bin(0, 0, 3, 4)), api.OK}, {"Mark 60", only(bin(0, 60, 3, 4)), api.OK}, {"warm to the mark", only(bin(60, 60, 3, 4)), api.OK},
		{"Mark 61", only(bin(0, 61, 3, 4)), api.ErrRange}, {"Mark -1", only(bin(0, -1, 3, 4)), api.ErrRange}, {"Mark and Warm -1", only(bin(-1, -1, 3, 4)), api.ErrRange},
		{"Warm -1", only(bin(-1, 40, 3, 4)), api.ErrRange}, {"warmer than the mark", only(bin(41, 40, 3, 4)), api.ErrRange},
		{"warm and marked too much", only(bin(61, 61, 3, 4)), api.ErrRange}, {"the least Warm of all", only(bin(math.MinInt, 40, 3, 4)), api.ErrRange},
		{"any damp", only(bin(0, 40, 0, 5)), api.OK}, {"the least damp", only(bin(0, 40, 0, 0)), api.OK}, {"the most damp", only(bin(0, 40, 5, 5)), api.OK},
		{"damp from -1", only(bin(0, 40, -1, 5)), api.ErrRange}, {"damp to 6", only(bin(0, 40, 0, 6)), api.ErrRange},
		{"damp from 6", only(bin(0, 40, 6, 5)), api.ErrRange}, {"damp to -1", only(bin(0, 40, 0, -1)), api.ErrRange},
		{"damp the wrong way round", only(bin(0, 40, 4, 3)), api.ErrOrder}, {"damp of all classes the wrong way round", only(bin(0, 40, 5, 0)), api.ErrOrder},
		{"the last bin is wrong", but(func(b *heat.Barn) { b.Bins[1].Damp = span(3, 2) }), api.ErrOrder},
		{"the last bin is too warm", but(func(b *heat.Barn) { b.Bins[1].Warm = 51 }), api.ErrRange},
		{"no bins, and all else wrong", heat.Barn{Cool: -1, Gangs: -1, Rise: [6]int{20, 7}}, api.ErrMany},
		{"five bins, all wrong", heat.Barn{Bins: slices.Repeat([]heat.Bin{bin(1, 0, 6, 5)}, 5)}, api.ErrMany},
		{"rises out of order, and too warm", but(func(b *heat.Barn) { b.Rise[5] = 9; b.Bins[1].Warm = 51 }), api.ErrRange},
		{"rises out of order, and too many gangs", but(func(b *heat.Barn) { b.Rise[5] = 9; b.Gangs = 4 }), api.ErrRange},
		{"rises out of order, and one too great", rising(0, 20, 19, 20, 20, 21), api.ErrRange},
		{"a damp the wrong way round, the next one too great", but(func(b *heat.Barn) { b.Bins[0].Damp = span(3, 2); b.Bins[1].Damp = span(3, 6) }), api.ErrRange},
	} {
		if e := heat.Check(x.b); e != x.want {
			t.Error(x.name, "has error", e, "and should have", x.want)
		}
	}
}

func TestRisesLeftAndLasts(t *testing.T) {
	hot := only(bin(20, 40, 3, 4))
	hot.Cool = 41
	even := only(bin(20, 40, 3, 4))
	even.Cool = 40
	for _, x := range []struct {
		name        string
		b           heat.Barn
		bin         int
		rises       api.Span
		left, lasts int
	}{
		{"bin 0", barn(3), 0, span(8, 10), 2, 2},
		{"bin 1", barn(3), 1, span(6, 8), 2, 3},
		{"bin 2", barn(3), 2, span(10, 10), 1, 2},
		{"a bin that never gets warmer", cold(), 0, span(0, 0), heat.Ever, heat.Ever},
		{"a bin that perhaps gets warmer", only(bin(0, 60, 0, 2)), 0, span(0, 6), 10, 6},
		{"the most days", steady(0, 10), 0, span(6, 6), 10, 10},
		{"a bin that is warm to its mark", only(bin(40, 40, 3, 4)), 0, span(8, 10), 0, 2},
		{"a day less one degree", only(bin(31, 40, 3, 4)), 0, span(8, 10), 0, 2},
		{"a day just about", only(bin(30, 40, 3, 4)), 0, span(8, 10), 1, 2},
		{"Cool above the mark", hot, 0, span(8, 10), 2, 0},
		{"Cool at the mark", even, 0, span(8, 10), 2, 0},
	} {
		rises, e := heat.Rises(x.b, x.bin)
		left, f := heat.Left(x.b, x.bin)
		lasts, g := heat.Lasts(x.b, x.bin)
		if rises != x.rises || left != x.left || lasts != x.lasts || e != api.OK || f != api.OK || g != api.OK {
			t.Error(x.name, "rises", rises, e, "has left", left, f, "and lasts", lasts, g, "and should", x.rises, x.left, x.lasts)
		}
	}
}

func TestRisesLeftAndLastsOfAnyBins(t *testing.T) {
	trials(t, 500, someBarn, func(r *rand.Rand, b heat.Barn) {
		for k, x := range b.Bins {
			rises, _ := heat.Rises(b, k)
			left, _ := heat.Left(b, k)
			lasts, _ := heat.Lasts(b, k)
			want := span(b.Rise[x.Damp.Lo], b.Rise[x.Damp.Hi])
			if rises != want || left != days(b, k, x.Warm) || lasts != days(b, k, b.Cool) {
				t.Error(b, k, "rises", rises, "has left", left, "and lasts", lasts)
			}
		}
	})
}

func TestBinsThatThereAreNot(t *testing.T) {
	for _, bin := range []int{-1, 2, math.MinInt, math.MaxInt} {
		rises, e := heat.Rises(barn(2), bin)
		left, f := heat.Left(barn(2), bin)
		lasts, g := heat.Lasts(barn(2), bin)
		all, h := heat.Warmth(barn(2), plan(nil), bin)
		b, i := heat.Sample(barn(2), bin, span(3, 3))
		if rises != span(0, 0) || left != 0 || lasts != 0 || all != nil || !sameBarn(b, heat.Barn{}) {
			t.Error(bin, "has", rises, left, lasts, all, b)
		}
		if n := api.ErrNot; e != n || f != n || g != n || h != n || i != n {
			t.Error(bin, "has errors", e, f, g, h, i)
		}
	}
}

func TestSample(t *testing.T) {
	for _, x := range []struct {
		name       string
		bin        int
		damp, want api.Span
		e          api.Errno
	}{
		{"one class of two", 0, span(3, 3), span(3, 3), api.OK},
		{"the other class", 0, span(4, 4), span(4, 4), api.OK},
		{"both classes", 0, span(3, 4), span(3, 4), api.OK},
		{"all classes", 0, span(0, 5), span(3, 4), api.OK},
		{"up to the first class", 0, span(0, 3), span(3, 3), api.OK},
		{"from the last class on", 0, span(4, 5), span(4, 4), api.OK},
		{"the other bin", 1, span(3, 4), span(3, 3), api.OK},
		{"less damp", 0, span(0, 2), span(0, 0), api.ErrClash},
		{"more damp", 0, span(5, 5), span(0, 0), api.ErrClash},
		{"the wrong way round", 0, span(4, 3), span(0, 0), api.ErrOrder},
		{"the wrong way round, and nothing in common", 0, span(2, 1), span(0, 0), api.ErrOrder},
		{"from -1", 0, span(-1, 4), span(0, 0), api.ErrRange},
		{"to 6", 0, span(3, 6), span(0, 0), api.ErrRange},
		{"from 6, the wrong way round", 0, span(6, 4), span(0, 0), api.ErrRange},
		{"to -1, the wrong way round", 0, span(3, -1), span(0, 0), api.ErrRange},
		{"no such bin, and from -1", 2, span(-1, 4), span(0, 0), api.ErrNot},
		{"no such bin, and the wrong way round", -1, span(4, 3), span(0, 0), api.ErrNot},
	} {
		want := heat.Barn{}
		if x.e == api.OK {
			want = barn(2)
			want.Bins[x.bin].Damp = x.want
		}
		if got, e := heat.Sample(barn(2), x.bin, x.damp); !sameBarn(got, want) || e != x.e {
			t.Error(x.name, "gives", got, e, "and should give", want, x.e)
		}
	}
}
