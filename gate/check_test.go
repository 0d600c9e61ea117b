package gate_test

import (
	"math"
	"slices"
	"testing"

	"staddle/api"
	"staddle/gate"
)

// limited is a number of a gate or a cart, with the least and the greatest value that is allowed for it.
type limited[T any] struct {
	name   string
	lo, hi int
	set    func(x *T, n int)
}

var gateNumbers = []limited[gate.Gate]{
	{"Err", 0, 50, func(g *gate.Gate, n int) { g.Err = n }},
	{"Miss", 0, 20, func(g *gate.Gate, n int) { g.Miss = n }},
	{"Corn", 0, 40, func(g *gate.Gate, n int) { g.Grades[0].Corn = n }},
	{"Chaff", 0, 40, func(g *gate.Gate, n int) { g.Grades[1].Chaff = n }},
	{"Stones", 0, 40, func(g *gate.Gate, n int) { g.Grades[2].Stones = n }},
	{"Damp", 0, 40, func(g *gate.Gate, n int) { g.Grades[2].Damp = n }},
	{"the last Corn", 0, 40, func(g *gate.Gate, n int) { g.Grades[2].Corn = n }},
	{"the last Chaff", 0, 40, func(g *gate.Gate, n int) { g.Grades[2].Chaff = n }},
	{"the first Price", 7, 100, func(g *gate.Gate, n int) { g.Grades[0].Price = n }},
	{"the last Price", 0, 7, func(g *gate.Gate, n int) { g.Grades[2].Price = n }},
}

var cartNumbers = []limited[gate.Cart]{
	{"Full", 0, 10000, func(c *gate.Cart, n int) { c.Full = n }},
	{"Empty", 0, 10000, func(c *gate.Cart, n int) { c.Empty = n }},
	{"the first Spot", 0, 2, func(c *gate.Cart, n int) { c.Handfuls[0].Spot = n }},
	{"the last Spot", 0, 2, func(c *gate.Cart, n int) { c.Handfuls[2].Spot = n }},
	{"corn", 0, 190, func(c *gate.Cart, n int) { c.Handfuls[2].Grains = [4]int{n, 5, 5, 0} }},
	{"chaff", 0, 190, func(c *gate.Cart, n int) { c.Handfuls[0].Grains = [4]int{5, n, 5, 0} }},
	{"stones", 0, 190, func(c *gate.Cart, n int) { c.Handfuls[1].Grains = [4]int{5, 0, n, 5} }},
	{"damp grains", 0, 190, func(c *gate.Cart, n int) { c.Handfuls[2].Grains = [4]int{5, 0, 5, n} }},
	{"all grains", 10, 200, func(c *gate.Cart, n int) { c.Handfuls[1].Grains = [4]int{n - 1, 0, 0, 1} }},
	{"grains of one kind", 10, 200, func(c *gate.Cart, n int) { c.Handfuls[1].Grains = [4]int{0, 0, n, 0} }},
}

func TestConstantsAreThoseOfTheChapter(t *testing.T) {
	kinds := []gate.Kind{gate.Corn, gate.Chaff, gate.Stones, gate.Damp}
	if !slices.Equal(kinds, []gate.Kind{0, 1, 2, 3}) {
		t.Error("kinds are", kinds)
	}
	got := []int{gate.None, gate.Whole, gate.MinGrains, gate.MaxGrains, gate.MaxMiss, gate.MaxErr, gate.MaxWeight, gate.MaxHandfuls, gate.MaxGrades, gate.MaxPrice}
	if want := []int{-1, 40, 10, 200, 20, 50, 10000, 6, 4, 100}; !slices.Equal(got, want) {
		t.Error("constants are", got, "and should be", want)
	}
}

func TestEachNumberOfAGateAtItsLimits(t *testing.T) {
	for _, x := range gateNumbers {
		for _, n := range []int{x.lo, x.hi} {
			g := mill()
			x.set(&g, n)
			if e := gate.Check(g); e != api.OK {
				t.Error(x.name, n, "is allowed, but has error", e)
			}
		}
		for _, n := range []int{x.lo - 1, x.hi + 1, math.MinInt, math.MaxInt} {
			g := mill()
			x.set(&g, n)
			if e := gate.Check(g); e == api.OK {
				t.Error(x.name, n, "is not allowed, but has no error")
			}
		}
	}
}

func TestWhichErrorAGateHas(t *testing.T) {
	for _, x := range []struct {
		name   string
		change func(g *gate.Gate)
		want   api.Errno
	}{
		{"as in the examples", func(g *gate.Gate) {}, api.OK},
		{"no grades", func(g *gate.Gate) { g.Grades = nil }, api.OK},
		{"an empty list of grades", func(g *gate.Gate) { g.Grades = []gate.Grade{} }, api.OK},
		{"four grades", func(g *gate.Gate) { g.Grades = make([]gate.Grade, 4) }, api.OK},
		{"five grades", func(g *gate.Gate) { g.Grades = make([]gate.Grade, 5) }, api.ErrMany},
		{"five grades, numbers not allowed", func(g *gate.Gate) { g.Grades = make([]gate.Grade, 5); g.Grades[4].Corn = 41; g.Err = -1 }, api.ErrMany},
		{"five grades, not in order", func(g *gate.Gate) { g.Grades = make([]gate.Grade, 5); g.Grades[1].Price = 1 }, api.ErrMany},
		{"Err too little", func(g *gate.Gate) { g.Err = -1 }, api.ErrRange},
		{"Err too great", func(g *gate.Gate) { g.Err = 51 }, api.ErrRange},
		{"Miss too little", func(g *gate.Gate) { g.Miss = -1 }, api.ErrRange},
		{"Miss too great", func(g *gate.Gate) { g.Miss = 21 }, api.ErrRange},
		{"a limit too little", func(g *gate.Gate) { g.Grades[2].Damp = -1 }, api.ErrRange},
		{"a limit too great", func(g *gate.Gate) { g.Grades[2].Stones = 41 }, api.ErrRange},
		{"a price too great, which is not in order either", func(g *gate.Gate) { g.Grades[1].Price = 101 }, api.ErrRange},
		{"a price too little", func(g *gate.Gate) { g.Grades[2].Price = -1 }, api.ErrRange},
		{"the same price", func(g *gate.Gate) { g.Grades[1].Price = 9; g.Grades[2].Price = 9 }, api.OK},
		{"the second price greater than the first", func(g *gate.Gate) { g.Grades[1].Price = 10 }, api.ErrOrder},
		{"the third price greater than the second", func(g *gate.Gate) { g.Grades[2].Price = 8 }, api.ErrOrder},
		{"not in order, and a later number not allowed", func(g *gate.Gate) { g.Grades[1].Price = 10; g.Grades[2].Corn = 41 }, api.ErrRange},
		{"not in order, and Miss not allowed", func(g *gate.Gate) { g.Grades[1].Price = 10; g.Miss = 21 }, api.ErrRange},
	} {
		g := mill()
		x.change(&g)
		if e := gate.Check(g); e != x.want {
			t.Error(x.name, "has error", e, "and should have", x.want)
		}
	}
}

func TestEachNumberOfACartAtItsLimits(t *testing.T) {
	for _, x := range cartNumbers {
		for _, n := range []int{x.lo, x.hi} {
			c := wagon(0, 1, 2)
			x.set(&c, n)
			if e := gate.CheckCart(c); e != api.OK {
				t.Error(x.name, n, "is allowed, but has error", e)
			}
		}
		for _, n := range []int{x.lo - 1, x.hi + 1, math.MinInt, math.MaxInt} {
			c := wagon(0, 1, 2)
			x.set(&c, n)
			if e := gate.CheckCart(c); e == api.OK {
				t.Error(x.name, n, "is not allowed, but has no error")
			}
		}
	}
}

func TestWhichErrorACartHas(t *testing.T) {
	few, wide := [4]int{9, 0, 0, 0}, [4]int{100, 100, 1, 0}
	for _, x := range []struct {
		name   string
		change func(c *gate.Cart)
		want   api.Errno
	}{
		{"as in the examples", func(c *gate.Cart) {}, api.OK},
		{"no handfuls", func(c *gate.Cart) { c.Handfuls = nil }, api.OK},
		{"an empty list of handfuls", func(c *gate.Cart) { c.Handfuls = []gate.Handful{} }, api.OK},
		{"six handfuls", func(c *gate.Cart) { c.Handfuls = slices.Repeat(c.Handfuls, 2) }, api.OK},
		{"seven handfuls", func(c *gate.Cart) { c.Handfuls = slices.Repeat(c.Handfuls[:1], 7) }, api.ErrMany},
		{"seven handfuls, numbers not allowed", func(c *gate.Cart) { c.Handfuls = make([]gate.Handful, 7); c.Full = -1 }, api.ErrMany},
		{"lighter when full", func(c *gate.Cart) { c.Full, c.Empty = 0, 10000 }, api.OK},
		{"Full too little", func(c *gate.Cart) { c.Full = -1 }, api.ErrRange},
		{"Full too great", func(c *gate.Cart) { c.Full = 10001 }, api.ErrRange},
		{"Empty too little", func(c *gate.Cart) { c.Empty = -1 }, api.ErrRange},
		{"Empty too great", func(c *gate.Cart) { c.Empty = 10001 }, api.ErrRange},
		{"a Spot too little", func(c *gate.Cart) { c.Handfuls[2].Spot = -1 }, api.ErrRange},
		{"a Spot too great", func(c *gate.Cart) { c.Handfuls[2].Spot = 3 }, api.ErrRange},
		{"fewer grains than none", func(c *gate.Cart) { c.Handfuls[1].Grains[3] = -1 }, api.ErrRange},
		{"fewer grains than none of one kind, many of another", func(c *gate.Cart) { c.Handfuls[1].Grains = [4]int{201, -1, 0, 0} }, api.ErrRange},
		{"too many grains of a kind", func(c *gate.Cart) { c.Handfuls[1].Grains[2] = 201 }, api.ErrRange},
		{"sums that an int does not hold", func(c *gate.Cart) { c.Handfuls[1].Grains = [4]int{math.MaxInt, math.MaxInt, 50, 0} }, api.ErrRange},
		{"too few grains", func(c *gate.Cart) { c.Handfuls[2].Grains = few }, api.ErrWrong},
		{"too many grains", func(c *gate.Cart) { c.Handfuls[2].Grains = wide }, api.ErrWrong},
		{"as many of each kind as there may be", func(c *gate.Cart) { c.Handfuls[2].Grains = [4]int{200, 200, 200, 200} }, api.ErrWrong},
		{"no grains", func(c *gate.Cart) { c.Handfuls[0].Grains = [4]int{} }, api.ErrWrong},
		{"too few grains, and a later Spot not allowed", func(c *gate.Cart) { c.Handfuls[0].Grains = few; c.Handfuls[2].Spot = 3 }, api.ErrRange},
		{"too many grains, and Empty not allowed", func(c *gate.Cart) { c.Handfuls[0].Grains = wide; c.Empty = -1 }, api.ErrRange},
	} {
		c := wagon(0, 1, 2)
		x.change(&c)
		if e := gate.CheckCart(c); e != x.want {
			t.Error(x.name, "has error", e, "and should have", x.want)
		}
	}
}

func TestTake(t *testing.T) {
	good, spotless, few := handful(1, 12, 4, 0, 4), handful(3, 12, 4, 0, 4), handful(1, 9, 0, 0, 0)
	bad := wagon(0, 1)
	bad.Empty = -1
	worse := wagon(0, 1)
	worse.Handfuls[1].Grains = [4]int{}
	for _, x := range []struct {
		name string
		c    gate.Cart
		h    gate.Handful
		want api.Errno
	}{
		{"one more", wagon(0, 1), good, api.OK},
		{"the first one", wagon(), good, api.OK},
		{"the sixth one", wagon(0, 1, 2, 0, 1), good, api.OK},
		{"one that does not agree", wagon(0, 0), good, api.OK},
		{"the seventh one", wagon(0, 1, 2, 0, 1, 2), good, api.ErrFull},
		{"the seventh one, which is not allowed either", wagon(0, 1, 2, 0, 1, 2), few, api.ErrFull},
		{"eight already", wagon(0, 1, 2, 0, 1, 2, 0), good, api.ErrMany},
		{"a number not allowed", bad, good, api.ErrRange},
		{"a number not allowed, one more with too few grains", bad, few, api.ErrRange},
		{"too few grains, one more at no spot", worse, spotless, api.ErrWrong},
		{"one more at no spot", wagon(0, 1), spotless, api.ErrRange},
		{"one more with too few grains", wagon(0, 1), few, api.ErrWrong},
	} {
		got, e := gate.Take(x.c, x.h)
		want := gate.Cart{}
		if x.want == api.OK {
			want = gate.Cart{Full: 1200, Empty: 300, Handfuls: append(slices.Clone(x.c.Handfuls), x.h)}
		}
		if e != x.want || !sameCart(got, want) {
			t.Error(x.name, "returns", got, e, "and should return", want, x.want)
		}
	}
}

func TestTakeKeepsNothingOfTheFormerCart(t *testing.T) {
	c := wagon(0, 1)
	c.Handfuls = append(make([]gate.Handful, 0, 6), c.Handfuls...)
	first, e := gate.Take(c, handful(0, 10, 0, 0, 0))
	second, f := gate.Take(c, handful(1, 0, 10, 0, 0))
	if e != api.OK || f != api.OK {
		t.Fatal(e, f)
	}
	if !sameCart(c, wagon(0, 1)) || c.Handfuls[:3][2] != (gate.Handful{}) {
		t.Error("the cart was changed:", c)
	}
	if first.Handfuls[2] != handful(0, 10, 0, 0, 0) || second.Handfuls[2] != handful(1, 0, 10, 0, 0) {
		t.Error("two carts share handfuls:", first, second)
	}
	first.Handfuls[0] = gate.Handful{}
	if !sameCart(c, wagon(0, 1)) {
		t.Error("the result shares its handfuls with the cart:", c)
	}
}

func TestNet(t *testing.T) {
	for _, x := range []struct {
		full, empty, err int
		want             api.Span
	}{
		{1200, 300, 5, span(890, 910)},
		{1200, 300, 0, span(900, 900)},
		{1200, 300, 50, span(800, 1000)},
		{10000, 0, 50, span(9900, 10100)},
		{0, 10000, 50, span(0, 0)},
		{310, 300, 5, span(0, 20)},
		{311, 300, 5, span(1, 21)},
		{300, 300, 5, span(0, 10)},
		{300, 309, 5, span(0, 1)},
		{300, 310, 5, span(0, 0)},
		{300, 311, 5, span(0, 0)},
		{0, 0, 0, span(0, 0)},
	} {
		got, e := gate.Net(gate.Gate{Err: x.err}, gate.Cart{Full: x.full, Empty: x.empty})
		if got != x.want || e != api.OK {
			t.Error("Net of", x.full, x.empty, x.err, "is", got, e, "and should be", x.want)
		}
	}
}
