package rod_test

import (
	"math"
	"math/rand/v2"
	"slices"
	"testing"

	"staddle/api"
	"staddle/rod"
)

func TestAgreeOfTheExamples(t *testing.T) {
	for _, x := range []struct {
		b    rod.Bin
		rods []int
		want bool
		e    api.Errno
	}{
		{barn(0, 1, 2, 3), nil, true, api.OK}, {barn(0, 1, 2, 3), []int{}, true, api.OK}, {barn(0, 1, 2, 3), []int{2}, true, api.OK}, {barn(0, 1, 2, 3), []int{0, 1, 2}, true, api.OK},
		{barn(0, 1, 2, 3), []int{3, 2}, true, api.OK}, {barn(0, 1, 2, 3), []int{3, 2, 0}, false, api.OK}, {barn(0, 1, 2, 3), []int{0, 2, 3}, false, api.OK}, {barn(0, 1, 2, 3), []int{3, 1, 0}, true, api.OK},
		{barn(0, 1, 2, 3), []int{0, 1, 2, 3}, false, api.OK}, {barn(), nil, true, api.OK}, {full(), []int{7, 6, 5, 4, 3, 2, 1, 0}, true, api.OK},
		{barn(0, 1, 2, 3), []int{-1}, false, api.ErrNot}, {barn(0, 1, 2, 3), []int{4}, false, api.ErrNot}, {barn(0, 1, 2, 3), []int{0, 1, 4}, false, api.ErrNot}, {barn(0, 1, 2, 3), []int{0, 0, 4}, false, api.ErrNot},
		{barn(0, 1, 2, 3), []int{math.MinInt}, false, api.ErrNot}, {barn(0, 1, 2, 3), []int{math.MaxInt}, false, api.ErrNot}, {barn(), []int{0}, false, api.ErrNot}, {full(), []int{8}, false, api.ErrNot},
		{barn(0, 1, 2, 3), []int{1, 1}, false, api.ErrTwice}, {barn(0, 1, 2, 3), []int{1, 0, 1}, false, api.ErrTwice}, {barn(0, 1, 2, 3), []int{0, 2, 3, 0}, false, api.ErrTwice}, {full(), []int{7, 6, 5, 4, 3, 2, 1, 0, 7}, false, api.ErrTwice},
	} {
		if is, e := rod.Agree(x.b, x.rods); is != x.want || e != x.e {
			t.Error("rods", x.rods, "agree:", is, e, "and should:", x.want, x.e)
		}
	}
}

func TestClashOfTheExamples(t *testing.T) {
	pair := func(shows ...int) rod.Bin {
		b := bin(2, 1)
		for _, n := range shows {
			b.Rods = append(b.Rods, put(0, 0, 0, n))
		}
		return b
	}
	for _, x := range []struct {
		name string
		b    rod.Bin
		want []int
		e    api.Errno
	}{
		{"example 5", barn(0, 1, 2, 3), []int{0, 2, 3}, api.OK},
		{"the same in another order", barn(3, 2, 1, 0), []int{0, 1, 3}, api.OK},
		{"the rods of the examples", barn(0, 1, 2), nil, api.ErrNone},
		{"no rods", bin(1, 1), nil, api.ErrNone},
		{"one rod", bin(1, 1, put(0, 0, 0, 9)), nil, api.ErrNone},
		{"two numbers at one tip", pair(3, 4), []int{0, 1}, api.OK},
		{"the same number twice", pair(3, 3), nil, api.ErrNone},
		{"the first of several pairs", pair(3, 3, 4, 4), []int{0, 2}, api.OK},
		{"the pair at the end", pair(3, 3, 3, 3, 3, 3, 3, 4), []int{0, 7}, api.OK},
		{"two that reach each other's tip", bin(2, 1, put(0, 0, 1, 3), put(1, 0, 1, 0)), []int{0, 1}, api.OK},
		{"one warm cell less than is needed", bin(2, 1, put(0, 0, 1, 3), put(0, 0, 0, 0), put(1, 0, 0, 3)), []int{0, 1, 2}, api.OK},
		{"another cell is hot enough", bin(2, 1, put(0, 0, 1, 3), put(0, 0, 0, 0), put(1, 0, 0, 4)), nil, api.ErrNone},
		{"a pair after three", bin(2, 1, put(0, 0, 1, 3), put(0, 0, 0, 0), put(1, 0, 0, 3), put(1, 0, 0, 4)), []int{2, 3}, api.OK},
		{"all eight", all8(), []int{0, 1, 2, 3, 4, 5, 6, 7}, api.OK},
		{"all but the third of eight", without(all8(), 2), nil, api.ErrNone},
		{"a bin with all that is allowed", full(), nil, api.ErrNone},
	} {
		if got, e := rod.Clash(x.b); !slices.Equal(got, x.want) || e != x.e {
			t.Error(x.name, "clashes in", got, e, "and should in", x.want, x.e)
		}
	}
}

// all8 is a bin of eight cells with a rod that reaches seven of them and shows something, and a rod at each of these
// which shows nothing.
func all8() rod.Bin {
	b := bin(4, 2, put(0, 0, 3, 5))
	for _, c := range allCells(b)[:7] {
		b.Rods = append(b.Rods, rod.Rod{Tip: c})
	}
	return b
}

func without(b rod.Bin, k int) rod.Bin {
	b.Rods = slices.Delete(slices.Clone(b.Rods), k, k+1)
	return b
}

func TestClashesAreTheFewestOfAll(t *testing.T) {
	sizes, agrees := map[int]int{}, map[bool]int{}
	searched(t, func(r *rand.Rand, b rod.Bin, k known) {
		n := len(b.Rods)
		clash, has := fewest(n, func(set int) bool { return !k.agree(set) })
		want := api.OK
		if !has {
			want = api.ErrNone
		}
		if got, e := rod.Clash(b); !slices.Equal(got, clash) || e != want {
			t.Error(b, "clashes in", got, e, "and should in", clash, want)
		}
		sizes[len(clash)]++
		for range 6 {
			list := r.Perm(n)[:r.IntN(n+1)]
			is, e := rod.Agree(b, list)
			if is != k.agree(setOf(list)) || e != api.OK {
				t.Error(b, list, "agree:", is, e)
			}
			agrees[is]++
		}
	})
	if sizes[0] < 100 || sizes[2] < 100 || sizes[3] < 20 || sizes[4] < 5 || agrees[true] < 100 || agrees[false] < 100 {
		t.Error("too few of a kind: clashes", sizes, "agree", agrees)
	}
}
