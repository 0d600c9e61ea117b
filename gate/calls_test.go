package gate_test

import (
	"math"
	"math/rand/v2"
	"slices"
	"testing"

	"staddle/api"
	"staddle/gate"
)

// call is a function that takes a gate and perhaps a cart, with its other arguments as they are given, and says whether
// its result is zero. A call that looks at no cart is not asked for errors of it.
type call struct {
	name  string
	carts bool
	do    func(g gate.Gate, c gate.Cart) (zero bool, e api.Errno)
}

// calls are all functions that take a gate, but for Check, with a handful, kind, mixture, list and grade.
func calls(handful int, k gate.Kind, m [4]int, list []int, grade int) []call {
	type cart = gate.Cart
	type where = gate.Gate
	return []call{
		{"Net", true, func(g where, c cart) (bool, api.Errno) { s, e := gate.Net(g, c); return s == api.Span{}, e }},
		{"Lets", true, func(g where, c cart) (bool, api.Errno) {
			s, e := gate.Lets(g, c, handful, k)
			return s == api.Span{}, e
		}},
		{"Fits", true, func(g where, c cart) (bool, api.Errno) { is, e := gate.Fits(g, c, m); return !is, e }},
		{"Bounds", true, func(g where, c cart) (bool, api.Errno) { b, e := gate.Bounds(g, c); return b == [4]api.Span{}, e }},
		{"Mixture", true, func(g where, c cart) (bool, api.Errno) { m, e := gate.Mixture(g, c); return m == [4]int{}, e }},
		{"Agree", true, func(g where, c cart) (bool, api.Errno) { is, e := gate.Agree(g, c, list); return !is, e }},
		{"Clash", true, func(g where, c cart) (bool, api.Errno) { l, e := gate.Clash(g, c); return len(l) == 0, e }},
		{"Topped", true, func(g where, c cart) (bool, api.Errno) { is, e := gate.Topped(g, c); return !is, e }},
		{"Has", false, func(g where, c cart) (bool, api.Errno) { n, e := gate.Has(g, m); return n == 0, e }},
		{"Can", true, func(g where, c cart) (bool, api.Errno) { l, e := gate.Can(g, c); return len(l) == 0, e }},
		{"Sure", true, func(g where, c cart) (bool, api.Errno) { n, e := gate.Sure(g, c); return n == 0, e }},
		{"Show", true, func(g where, c cart) (bool, api.Errno) { m, e := gate.Show(g, c, grade); return m == [4]int{}, e }},
		{"Weight", true, func(g where, c cart) (bool, api.Errno) { s, e := gate.Weight(g, c, k); return s == api.Span{}, e }},
		{"Pay", true, func(g where, c cart) (bool, api.Errno) { s, e := gate.Pay(g, c); return s == api.Span{}, e }},
	}
}

func TestErrorsOfGatesComeFirstThenThoseOfCarts(t *testing.T) {
	many, strange, unsorted := mill(), mill(), mill()
	many.Grades = make([]gate.Grade, 5)
	many.Err = -1
	strange.Miss = 21
	unsorted.Grades[1].Price = 10
	crowded, empty, few := wagon(0, 2), wagon(0, 2), wagon(0, 2)
	crowded.Handfuls = make([]gate.Handful, 7)
	empty.Empty = -1
	few.Handfuls[1].Grains = [4]int{}
	gates := []struct {
		g gate.Gate
		e api.Errno
	}{{mill(), api.OK}, {many, api.ErrMany}, {strange, api.ErrRange}, {unsorted, api.ErrOrder}}
	carts := []struct {
		c gate.Cart
		e api.Errno
	}{{crowded, api.ErrMany}, {empty, api.ErrRange}, {few, api.ErrWrong}, {wagon(0, 2), api.OK}}
	// arguments that are not allowed, for which each call has an error of its own in the end
	for _, x := range calls(9, 9, [4]int{41, 0, 0, 0}, []int{9, 9}, 9) {
		for _, a := range gates {
			for _, b := range carts {
				want := a.e
				if want == api.OK && x.carts {
					want = b.e
				}
				if want == api.OK {
					continue
				}
				if zero, e := x.do(a.g, b.c); e != want || !zero {
					t.Error(x.name, "has error", e, "and should have", want, "; its result is zero:", zero)
				}
			}
		}
	}
}

func TestErrorsOfOtherArgumentsComeLast(t *testing.T) {
	list := calls(9, 9, [4]int{41, 0, 0, 0}, []int{9, 9}, 9)
	want := map[string]api.Errno{
		"Lets": api.ErrNot, "Fits": api.ErrRange, "Bounds": api.ErrClash, "Mixture": api.ErrClash, "Agree": api.ErrNot,
		"Has": api.ErrRange, "Can": api.ErrClash, "Sure": api.ErrClash, "Show": api.ErrNot, "Weight": api.ErrNot, "Pay": api.ErrClash,
	}
	for _, x := range list {
		zero, e := x.do(mill(), wagon(0, 2))
		if e != want[x.name] || e != api.OK && !zero {
			t.Error(x.name, "has error", e, "and should have", want[x.name], "; its result is zero:", zero)
		}
	}
}

func TestNothingIsChangedAndNothingIsKept(t *testing.T) {
	trials(t, 60, func(r *rand.Rand, g gate.Gate, c gate.Cart) {
		g.Grades = append(make([]gate.Grade, 0, 9), g.Grades...)
		c.Handfuls = append(make([]gate.Handful, 0, 9), c.Handfuls...)
		list := r.Perm(len(c.Handfuls))
		g0, c0, list0 := copyGate(g), copyCart(c), slices.Clone(list)
		for _, x := range calls(0, gate.Damp, [4]int{10, 10, 10, 10}, list, gate.None) {
			zero, e := x.do(g, c)
			again, f := x.do(g0, c0)
			if zero != again || e != f {
				t.Error(x.name, "returns something else when it is asked again:", zero, e, again, f)
			}
			if g.Err != g0.Err || g.Miss != g0.Miss || !slices.Equal(g.Grades, g0.Grades) || !sameCart(c, c0) || !slices.Equal(list, list0) {
				t.Error(x.name, "changes an argument")
			}
		}
		if slices.ContainsFunc(g.Grades[len(g.Grades):9], func(x gate.Grade) bool { return x != gate.Grade{} }) {
			t.Error("grades were written beyond the end of the list")
		}
		if slices.ContainsFunc(c.Handfuls[len(c.Handfuls):9], func(x gate.Handful) bool { return x != gate.Handful{} }) {
			t.Error("handfuls were written beyond the end of the list")
		}
	})
}

func TestResultsShareNoMemory(t *testing.T) {
	first, _ := gate.Clash(mill(), wagon(0, 1, 2))
	can, _ := gate.Can(mill(), wagon(1))
	clear(first)
	clear(can)
	if list, _ := gate.Clash(mill(), wagon(0, 1, 2)); !slices.Equal(list, []int{0, 2}) {
		t.Error("a result of Clash was kept:", list)
	}
	if list, _ := gate.Can(mill(), wagon(1)); !slices.Equal(list, []int{1, 2, gate.None}) {
		t.Error("a result of Can was kept:", list)
	}
}

func TestNilListsAreAsEmptyOnes(t *testing.T) {
	bare := gate.Cart{Full: 1200, Empty: 300}
	empty := gate.Cart{Full: 1200, Empty: 300, Handfuls: []gate.Handful{}}
	g := gate.Gate{Err: 5, Miss: 2, Grades: []gate.Grade{}}
	for i, x := range calls(0, gate.Corn, [4]int{10, 10, 10, 10}, nil, gate.None) {
		zero, e := x.do(gate.Gate{Err: 5, Miss: 2}, bare)
		y := calls(0, gate.Corn, [4]int{10, 10, 10, 10}, []int{}, gate.None)[i]
		if same, f := y.do(g, empty); same != zero || e != f {
			t.Error(x.name, "returns another result for empty lists:", zero, e, same, f)
		}
	}
	a, e := gate.Take(bare, handful(0, 10, 0, 0, 0))
	b, f := gate.Take(empty, handful(0, 10, 0, 0, 0))
	if !sameCart(a, b) || e != api.OK || f != api.OK {
		t.Error("Take returns another result for an empty list:", a, e, b, f)
	}
}

// TestAnyNumbers calls everything with numbers that are seldom allowed.
func TestAnyNumbers(t *testing.T) {
	r := rand.New(rand.NewPCG(3, 5))
	some := func() int {
		all := []int{math.MinInt, math.MinInt + 1, -1, 0, 1, 2, 9, 10, 40, 41, 200, 201, 10000, 10001, math.MaxInt - 1, math.MaxInt}
		if r.IntN(3) > 0 {
			return r.IntN(11)
		}
		return all[r.IntN(len(all))]
	}
	four := func() [4]int { return [4]int{some(), some(), some(), some()} }
	for range 3000 {
		g := gate.Gate{Err: some(), Miss: some()}
		for range r.IntN(6) {
			g.Grades = append(g.Grades, gate.Grade{Corn: some(), Chaff: some(), Stones: some(), Damp: some(), Price: some()})
		}
		c := gate.Cart{Full: some(), Empty: some()}
		for range r.IntN(8) {
			c.Handfuls = append(c.Handfuls, gate.Handful{Spot: some(), Grains: four()})
		}
		var list []int
		for range r.IntN(8) {
			list = append(list, some())
		}
		for _, x := range calls(some(), gate.Kind(some()), four(), list, some()) {
			if zero, e := x.do(g, c); e != api.OK && !zero {
				t.Error(x.name, "has a result beside error", e)
			}
		}
		if got, e := gate.Take(c, gate.Handful{Spot: some(), Grains: four()}); e != api.OK && !sameCart(got, gate.Cart{}) {
			t.Error("Take has a result beside error", e)
		}
	}
}
