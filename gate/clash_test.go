package gate_test

import (
	"math"
	"math/rand/v2"
	"slices"
	"testing"

	"staddle/api"
	"staddle/gate"
)

// crowd is a cart of four handfuls, each with little of one kind: together they leave less than a whole.
func crowd() gate.Cart {
	return holding(handful(0, 3, 9, 9, 9), handful(1, 9, 3, 9, 9), handful(2, 9, 9, 3, 9), handful(0, 9, 9, 9, 3))
}

// someCrowd returns a cart of handfuls that often agree but for three or four of them, and a Miss for it: each handful
// has little of one kind, or each has much of one kind.
func someCrowd(r *rand.Rand) (gate.Cart, int) {
	c := holding()
	much := r.IntN(2) == 0
	for range gate.MaxHandfuls {
		h := handful(r.IntN(3), 7+r.IntN(4), 7+r.IntN(4), 7+r.IntN(4), 7+r.IntN(4))
		h.Grains[r.IntN(4)] = r.IntN(4)
		if much {
			h = handful(r.IntN(3), 2, 2, 2, 2)
			h.Grains[r.IntN(4)] = 13 + r.IntN(3)
		}
		c.Handfuls = append(c.Handfuls, h)
	}
	if much {
		return c, 6 + r.IntN(3)
	}
	return c, 3 + r.IntN(3)
}

func TestAgree(t *testing.T) {
	for _, x := range []struct {
		list []int
		want bool
		e    api.Errno
	}{
		{nil, true, api.OK},
		{[]int{}, true, api.OK},
		{[]int{0}, true, api.OK},
		{[]int{0, 1}, true, api.OK},
		{[]int{1, 0}, true, api.OK},
		{[]int{1, 2}, true, api.OK},
		{[]int{0, 2}, false, api.OK},
		{[]int{2, 0}, false, api.OK},
		{[]int{2, 1, 0}, false, api.OK},
		{[]int{3}, false, api.ErrNot},
		{[]int{-1}, false, api.ErrNot},
		{[]int{math.MaxInt}, false, api.ErrNot},
		{[]int{math.MinInt}, false, api.ErrNot},
		{[]int{0, 1, 3}, false, api.ErrNot},
		{[]int{1, 1}, false, api.ErrTwice},
		{[]int{0, 1, 0}, false, api.ErrTwice},
		{[]int{0, 2, 2}, false, api.ErrTwice},
		{[]int{1, 1, 3}, false, api.ErrNot},
		{[]int{3, 3}, false, api.ErrNot},
		{slices.Repeat([]int{0}, 1000), false, api.ErrTwice},
	} {
		if is, e := gate.Agree(mill(), wagon(0, 1, 2), x.list); is != x.want || e != x.e {
			t.Error("handfuls", x.list, "agree:", is, e, "and it should be", x.want, x.e)
		}
	}
	if is, e := gate.Agree(mill(), wagon(), nil); !is || e != api.OK {
		t.Error("no handfuls of none agree:", is, e)
	}
	if _, e := gate.Agree(mill(), wagon(), []int{0}); e != api.ErrNot {
		t.Error("a handful of none has error", e)
	}
}

func TestClash(t *testing.T) {
	for _, x := range []struct {
		name string
		miss int
		c    gate.Cart
		want []int
		e    api.Errno
	}{
		{"the example", 2, wagon(0, 1, 2), []int{0, 2}, api.OK},
		{"two that agree", 2, wagon(0, 1), nil, api.ErrNone},
		{"no handfuls", 2, wagon(), nil, api.ErrNone},
		{"several pairs, of which this is the first one", 2, wagon(2, 0, 0, 2), []int{0, 1}, api.OK},
		{"several pairs, none with handful 0", 2, wagon(1, 2, 1, 2, 0, 0), []int{1, 4}, api.OK},
		{"one alone that lets a kind have no number", 0, holding(handful(0, 20, 0, 0, 0), handful(0, 0, 20, 0, 0), handful(0, 10, 1, 0, 0)), []int{2}, api.OK},
		{"three of which each two agree", 6, holding(handful(0, 14, 2, 2, 2), handful(0, 2, 14, 2, 2), handful(0, 2, 2, 14, 2)), []int{0, 1, 2}, api.OK},
		{"four of which each three agree", 4, crowd(), []int{0, 1, 2, 3}, api.OK},
		{"four that agree with a greater Miss", 5, crowd(), nil, api.ErrNone},
	} {
		got, e := gate.Clash(gate.Gate{Miss: x.miss}, x.c)
		if !slices.Equal(got, x.want) || e != x.e {
			t.Error("Clash of", x.name, "is", got, e, "and should be", x.want, x.e)
		}
	}
}

func TestTopped(t *testing.T) {
	at := func(c gate.Cart, spots ...int) gate.Cart {
		for i, spot := range spots {
			c.Handfuls[i].Spot = spot
		}
		return c
	}
	for _, x := range []struct {
		name string
		c    gate.Cart
		want bool
	}{
		{"the example, each from another spot", wagon(0, 1, 2), true},
		{"all agree", wagon(0, 1), false},
		{"no handfuls", wagon(), false},
		{"all from one spot", at(wagon(0, 1, 2), 1, 1, 1), false},
		{"those at the top clash", at(wagon(0, 1, 2), 0, 1, 0), false},
		{"those in the middle clash", at(wagon(0, 1, 2), 1, 0, 1), false},
		{"those at the bottom clash", at(wagon(0, 1, 2), 2, 0, 2), false},
		{"top and middle clash", at(wagon(0, 2), 0, 1), true},
		{"middle and bottom clash", at(wagon(0, 2), 1, 2), true},
		{"two at the top agree, one at the bottom clashes", at(wagon(0, 0, 2), 0, 0, 2), true},
	} {
		if got, e := gate.Topped(mill(), x.c); got != x.want || e != api.OK {
			t.Error("Topped of", x.name, "is", got, e, "and should be", x.want)
		}
	}
}

func TestClashesAgreeWithAllMixtures(t *testing.T) {
	sizes := map[int]bool{}
	trials(t, 600, func(r *rand.Rand, g gate.Gate, c gate.Cart) {
		if r.IntN(3) == 0 {
			c, g.Miss = someCrowd(r)
		}
		k := look(g, c)
		n := len(c.Handfuls)
		want, e := k.clash(n), api.OK
		if want == nil {
			e = api.ErrNone
		}
		got, f := gate.Clash(g, c)
		if !slices.Equal(got, want) || f != e {
			t.Error(g, c, "clashes in", got, f, "and should in", want, e)
		}
		sizes[len(got)] = true
		list := r.Perm(n)[:r.IntN(n+1)]
		if is, e := gate.Agree(g, c, list); is != k.agree(list) || e != api.OK {
			t.Error(g, c, list, "agree:", is, e)
		}
		if is, e := gate.Topped(g, c); is != k.topped(c) || e != api.OK {
			t.Error(g, c, "is topped:", is, e)
		}
	})
	for size := range 5 {
		if !sizes[size] {
			t.Error("no trial has a clash of", size)
		}
	}
}
