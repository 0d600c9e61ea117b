package heat_test

import (
	"math/rand/v2"
	"testing"

	"staddle/api"
	"staddle/heat"
)

func TestLongestOfTheExamples(t *testing.T) {
	lost := barn(1)
	lost.Gangs = 0
	stuck := barn(1)
	stuck.Cool = 40
	for _, x := range []struct {
		name           string
		b              heat.Barn
		longest, spare int
		none           bool
	}{
		{"example 2", barn(2), heat.Ever, 1, false},
		{"example 3", barn(3), 3, 2, false},
		{"a bin that never gets warmer", cold(), heat.Ever, 0, false},
		{"no gangs", lost, 2, 1, false},
		{"turning does not help", stuck, 2, 0, true},
		{"one that never gets warmer, and one that does", mixed(), 2, 1, false},
		{"warm to the mark, and no gang", only0(bin(40, 40, 3, 4)), 0, 1, false},
		{"each bin on every day", steady(3, 1, 1, 1, 1), 1, 4, false},
		{"each of three bins on every day", steady(3, 1, 1, 1), heat.Ever, 3, false},
		{"four bins on every second day", steady(2, 2, 2, 2, 2), heat.Ever, 2, false},
		{"thirteen turnings in each twelve days", steady(1, 2, 3, 4), 6, 2, false},
		{"by turns of four", steady(1, 4, 4, 4, 4), heat.Ever, 1, false},
		{"by turns of four, but for one", steady(1, 4, 4, 4, 3), 6, 2, false},
		{"one bin lasts for no day", steady(3, 0, 1), 0, 0, true},
	} {
		want, none := api.OK, api.OK
		first := x.longest
		if x.longest == heat.Ever {
			first, want = 0, api.ErrNone
		}
		if x.none {
			none = api.ErrNone
		}
		n, e := heat.Longest(x.b)
		m, f := heat.First(x.b)
		s, g := heat.Spare(x.b)
		if n != x.longest || e != api.OK || m != first || f != want || s != x.spare || g != none {
			t.Error(x.name, "is kept for", n, e, "burns on day", m, f, "and needs", s, g)
		}
	}
}

// only0 returns a barn with one bin and no gang.
func only0(one heat.Bin) heat.Barn {
	b := only(one)
	b.Gangs = 0
	return b
}

func TestLongestOfAnyBarns(t *testing.T) {
	count := map[int]int{}
	searched(t, func(r *rand.Rand, b heat.Barn, k known) {
		n, e := heat.Longest(b)
		m, f := heat.First(b)
		if n != k.longest || e != api.OK {
			t.Error(b, "is kept for", n, e, "and should be for", k.longest)
		}
		if n == heat.Ever && (m != 0 || f != api.ErrNone) || n != heat.Ever && (m != n || f != api.OK) {
			t.Error(b, "is kept for", n, "and burns on day", m, f)
		}
		count[min(n, 12)]++
	})
	if count[12] < 200 || count[0] < 20 || count[2] < 20 || count[4] < 20 || count[6]+count[7]+count[8]+count[9]+count[10]+count[11] < 5 {
		t.Error("too few barns are kept for so many days:", count)
	}
}

func TestSpareOfAnyBarns(t *testing.T) {
	count := map[int]int{}
	for _, make := range []func(r *rand.Rand) heat.Barn{someBarn, tightBarn} {
		trials(t, 200, make, func(r *rand.Rand, b heat.Barn) {
			want, none := 0, api.ErrNone
			for gangs := 0; gangs <= len(b.Bins); gangs++ {
				more := b
				more.Gangs = gangs
				if look(more).longest == heat.Ever {
					want, none = gangs, api.OK
					break
				}
			}
			got, e := heat.Spare(b)
			if got != want || e != none {
				t.Error(b, "needs", got, e, "gangs and should need", want, none)
			}
			if e == api.ErrNone {
				got = -1
			}
			count[got]++
		})
	}
	for gangs := -1; gangs <= heat.MaxBins; gangs++ {
		if count[gangs] < 2 {
			t.Error("too few barns need so many gangs:", count)
		}
	}
}
