package floor_test

import (
	"math"
	"math/rand/v2"
	"slices"
	"testing"

	"staddle/api"
	"staddle/floor"
)

// call is a function that takes a floor, with its other arguments as they are given, and says whether its result is zero.
type call struct {
	name string
	do   func(f floor.Floor) (zero bool, e api.Errno)
}

// others are arguments beside a floor.
type others struct {
	turning, bay, a, b int
	order              []int
	pays               []floor.Pay
	rule               floor.Rule
}

// calls are all functions that take a floor but Check.
func calls(o others) []call {
	number := func(do func(f floor.Floor) (int, api.Errno)) func(f floor.Floor) (bool, api.Errno) {
		return func(f floor.Floor) (bool, api.Errno) { n, e := do(f); return n == 0, e }
	}
	numbers := func(do func(f floor.Floor) ([]int, api.Errno)) func(f floor.Floor) (bool, api.Errno) {
		return func(f floor.Floor) (bool, api.Errno) { l, e := do(f); return len(l) == 0, e }
	}
	return []call{
		{"Ahead", numbers(func(f floor.Floor) ([]int, api.Errno) { return floor.Ahead(f, o.turning) })},
		{"Loads", func(f floor.Floor) (bool, api.Errno) { l, e := floor.Loads(f, o.order); return len(l) == 0, e }},
		{"Keeps", func(f floor.Floor) (bool, api.Errno) { is, e := floor.Keeps(f, o.order); return !is, e }},
		{"Breaks", func(f floor.Floor) (bool, api.Errno) { n, k, e := floor.Breaks(f, o.order); return n == 0 && k == 0, e }},
		{"Margin", number(func(f floor.Floor) (int, api.Errno) { return floor.Margin(f, o.order) })},
		{"Most", number(func(f floor.Floor) (int, api.Errno) { return floor.Most(f, o.bay) })},
		{"Heaviest", numbers(func(f floor.Floor) ([]int, api.Errno) { return floor.Heaviest(f, o.bay) })},
		{"Worst", numbers(func(f floor.Floor) ([]int, api.Errno) { return floor.Worst(f, o.bay) })},
		{"Payments", func(f floor.Floor) (bool, api.Errno) { l, e := floor.Payments(f, o.bay); return len(l) == 0, e }},
		{"Bounds", number(func(f floor.Floor) (int, api.Errno) { return floor.Bounds(f, o.bay, o.pays) })},
		{"Risk", numbers(floor.Risk)},
		{"Safe", numbers(floor.Safe)},
		{"Safest", func(f floor.Floor) (bool, api.Errno) { l, n, e := floor.Safest(f); return len(l) == 0 && n == 0, e }},
		{"Count", number(floor.Count)},
		{"Firsts", numbers(floor.Firsts)},
		{"Must", func(f floor.Floor) (bool, api.Errno) { is, e := floor.Must(f, o.a, o.b); return !is, e }},
		{"Wait", func(f floor.Floor) (bool, api.Errno) {
			g, e := floor.Wait(f, o.rule)
			return sameFloor(g, floor.Floor{}), e
		}},
	}
}

// strange are arguments that are not allowed, for which each call that takes one has an error of its own.
func strange() others {
	return others{turning: 9, bay: 9, a: 1, b: 1, order: list(9), pays: pays(pay(9, 9, 0)), rule: rule(9, 9)}
}

// allowed are arguments that are allowed for the floor of the examples without rules.
func allowed() others { return others{turning: 1, a: 1, b: 2, order: list(2, 0, 1), rule: rule(0, 2)} }

func TestErrorsOfFloorsComeFirst(t *testing.T) {
	full := barn(slices.Repeat([]floor.Rule{rule(2, 2)}, 16)...)
	for _, x := range []struct {
		f floor.Floor
		e api.Errno
	}{
		{floor.Floor{}, api.ErrMany},
		{but(func(f *floor.Floor) { f.Bears = list(9000) }), api.ErrMany},
		{but(func(f *floor.Floor) { f.Bears[1] = 4001 }), api.ErrRange},
		{but(func(f *floor.Floor) { f.Turnings[1].From = 7 }), api.ErrNot},
		{but(func(f *floor.Floor) { f.Turnings[1].From = 2 }), api.ErrTwice},
		{but(func(f *floor.Floor) { f.Turnings[1].Sacks = 31 }), api.ErrWrong},
		{full, api.ErrClash},
	} {
		if e := floor.Check(x.f); e != x.e {
			t.Error("Check has error", e, "and should have", x.e)
		}
		for _, o := range []others{strange(), allowed(), {}} {
			for _, call := range calls(o) {
				if zero, e := call.do(x.f); e != x.e || !zero {
					t.Error(call.name, "has error", e, "and should have", x.e, "; its result is zero:", zero)
				}
			}
		}
	}
}

// TestErrorsInOrder asks of a floor that some orders keep, and of one that none does.
func TestErrorsInOrder(t *testing.T) {
	const ok, no, many, twice, none, clash, full = api.OK, api.ErrNot, api.ErrMany, api.ErrTwice, api.ErrNone, api.ErrClash, api.ErrFull
	kept := allowed()
	kept.order, kept.pays = list(0, 1, 2), pays(pay(2, 0, 3))
	never := barn(slices.Repeat([]floor.Rule{rule(2, 0), rule(2, 1)}, 8)...)
	for _, x := range []struct {
		name string
		f    floor.Floor
		o    others
		want map[string]api.Errno
	}{
		{"strange", barn(), strange(), map[string]api.Errno{"Ahead": no, "Loads": many, "Keeps": many, "Breaks": many, "Margin": many, "Most": no,
			"Heaviest": no, "Worst": no, "Payments": no, "Bounds": no, "Safe": ok, "Firsts": ok, "Must": twice, "Wait": no}},
		{"strange, where no order keeps", never, strange(), map[string]api.Errno{"Ahead": no, "Loads": many, "Keeps": many, "Breaks": many, "Margin": many, "Most": no,
			"Heaviest": no, "Worst": no, "Payments": no, "Bounds": no, "Safe": none, "Firsts": none, "Must": twice, "Wait": full}},
		{"allowed", barn(), allowed(), map[string]api.Errno{"Breaks": ok}},
		{"allowed, where no order keeps", never, allowed(), map[string]api.Errno{"Breaks": ok, "Safe": none, "Firsts": none, "Must": none, "Wait": full}},
		{"kept", barn(rule(0, 2)), kept, map[string]api.Errno{"Breaks": none}},
		{"nothing", barn(), others{}, map[string]api.Errno{"Loads": many, "Keeps": many, "Breaks": many, "Margin": many, "Must": twice, "Wait": clash}},
	} {
		for _, call := range calls(x.o) {
			zero, e := call.do(x.f)
			if e != x.want[call.name] || e != api.OK && !zero {
				t.Error(x.name, ":", call.name, "has error", e, "and should have", x.want[call.name], "; its result is zero:", zero)
			}
		}
	}
}

// someOthers returns arguments that are allowed, but a rule may clash, and payments may not hold.
func someOthers(r *rand.Rand, f floor.Floor) others {
	n := len(f.Turnings)
	o := others{bay: r.IntN(len(f.Bears)), order: someOrder(r, f), pays: somePays(r, f)}
	if n > 0 {
		o.turning, o.a, o.b, o.rule = r.IntN(n), r.IntN(n), r.IntN(n), rule(r.IntN(n), r.IntN(n))
	}
	return o
}

// roomFor returns a list with room for more beyond its end.
func roomFor[T any](list []T) []T { return append(make([]T, 0, len(list)+20), list...) }

// roomyFloor returns a floor all of whose lists have room for more.
func roomyFloor(f floor.Floor) floor.Floor {
	f = copyFloor(f)
	for k := range f.Bins {
		f.Bins[k].Shares = roomFor(f.Bins[k].Shares)
	}
	return floor.Floor{Bears: roomFor(f.Bears), Bins: roomFor(f.Bins), Turnings: roomFor(f.Turnings), Rules: roomFor(f.Rules)}
}

// isBare says whether a list has nothing beyond its end.
func isBare[T comparable](list []T) bool {
	var none T
	return !slices.ContainsFunc(list[len(list):cap(list)], func(x T) bool { return x != none })
}

func isBareFloor(f floor.Floor) bool {
	for _, b := range f.Bins {
		if !isBare(b.Shares) {
			return false
		}
	}
	beyond := f.Bins[len(f.Bins):cap(f.Bins)]
	return isBare(f.Bears) && isBare(f.Turnings) && isBare(f.Rules) && !slices.ContainsFunc(beyond, func(b floor.Bin) bool { return b.Has != 0 || b.Shares != nil })
}

func TestNothingIsChangedAndNothingIsKept(t *testing.T) {
	for _, make := range kinds() {
		trials(t, 100, make, func(r *rand.Rand, f floor.Floor) {
			f = roomyFloor(f)
			was := copyFloor(f)
			o := someOthers(r, f)
			o.order, o.pays = roomFor(o.order), roomFor(o.pays)
			order, pays := slices.Clone(o.order), slices.Clone(o.pays)
			for _, call := range calls(o) {
				zero, e := call.do(f)
				again, g := call.do(was)
				if zero != again || e != g {
					t.Error(call.name, "returns something else when it is asked again:", zero, e, again, g)
				}
				if !sameFloor(f, was) || !slices.Equal(o.order, order) || !slices.Equal(o.pays, pays) {
					t.Error(call.name, "changes an argument")
				}
			}
			if !isBareFloor(f) || !isBare(o.order) || !isBare(o.pays) {
				t.Error("something was written beyond the end of a list")
			}
		})
	}
}

// scrawl writes over all that a list has room for.
func scrawl[T any](list []T, x T) {
	for i := range list[:cap(list)] {
		list[:cap(list)][i] = x
	}
}

// TestResultsAreNotKept asks the same twice, and writes over all that was answered first.
func TestResultsAreNotKept(t *testing.T) {
	f := barn(rule(0, 2))
	order := list(0, 1, 2)
	numbers := func(name string, ask func() ([]int, api.Errno)) {
		first, _ := ask()
		was := slices.Clone(first)
		scrawl(first, -7)
		if again, e := ask(); len(was) == 0 || !slices.Equal(again, was) || e != api.OK {
			t.Error(name, "returns", again, e, "and returned", was)
		}
	}
	numbers("Ahead", func() ([]int, api.Errno) { return floor.Ahead(f, 2) })
	numbers("Heaviest", func() ([]int, api.Errno) { return floor.Heaviest(f, 0) })
	numbers("Worst", func() ([]int, api.Errno) { return floor.Worst(f, 0) })
	numbers("Risk", func() ([]int, api.Errno) { return floor.Risk(barn()) })
	numbers("Safe", func() ([]int, api.Errno) { return floor.Safe(f) })
	numbers("Safest", func() ([]int, api.Errno) { l, _, e := floor.Safest(f); return l, e })
	numbers("Firsts", func() ([]int, api.Errno) { return floor.Firsts(f) })
	first, _ := floor.Payments(f, 0)
	was := slices.Clone(first)
	scrawl(first, pay(-7, -7, -7))
	if again, e := floor.Payments(f, 0); len(was) == 0 || !slices.Equal(again, was) || e != api.OK {
		t.Error("Payments returns", again, e, "and returned", was)
	}
	if !sameFloor(f, barn(rule(0, 2))) || !slices.Equal(order, list(0, 1, 2)) {
		t.Error("a result shares memory with an argument:", f, order)
	}
}

func TestLoadsShareNoMemory(t *testing.T) {
	f := barn()
	order := list(0, 1, 2)
	loads, e := floor.Loads(f, order)
	was := copyLoads(loads)
	if len(loads) != 4 || e != api.OK {
		t.Fatal("there are", loads, e)
	}
	for k, l := range loads {
		scrawl(l, -7)
		if !sameLoads(loads[k+1:], was[k+1:]) {
			t.Error("the loads of time", k, "share memory with others:", loads)
		}
	}
	scrawl(loads, nil)
	if again, e := floor.Loads(f, order); !sameLoads(again, was) || e != api.OK || !sameFloor(f, barn()) || !slices.Equal(order, list(0, 1, 2)) {
		t.Error("Loads returns", again, e, "and returned", was)
	}
}

func TestAFloorWithARuleMoreSharesNoMemory(t *testing.T) {
	f := roomyFloor(barn(rule(0, 2)))
	more, e := floor.Wait(f, rule(0, 1))
	if e != api.OK {
		t.Fatal("there is error", e)
	}
	for k := range more.Bins {
		scrawl(more.Bins[k].Shares, -7)
		for _, b := range more.Bins[k+1:] {
			if slices.Contains(b.Shares, -7) {
				t.Error("bins share memory:", more.Bins)
			}
		}
	}
	scrawl(more.Bears, -7)
	scrawl(more.Bins, bin(-7))
	scrawl(more.Turnings, move(-7, -7, -7))
	scrawl(more.Rules, rule(-7, -7))
	if !sameFloor(f, barn(rule(0, 2))) || !isBareFloor(f) {
		t.Error("a floor shares memory with the one that it came from:", f)
	}
}

func TestNilListsAreAsEmptyOnes(t *testing.T) {
	nothing := floor.Floor{Bears: list(5)}
	empty := floor.Floor{Bears: list(5), Bins: []floor.Bin{}, Turnings: []floor.Turning{}, Rules: []floor.Rule{}}
	for _, x := range [][2]floor.Floor{{nothing, empty}, {{}, {Bears: list(), Bins: []floor.Bin{}}}, {barn(), barn()}} {
		for i, call := range calls(others{}) {
			zero, e := call.do(x[0])
			again, f := calls(others{order: list(), pays: pays()})[i].do(x[1])
			if zero != again || e != f {
				t.Error(call.name, "returns another result for empty lists:", zero, e, again, f)
			}
		}
	}
	if e := floor.Check(empty); e != api.OK {
		t.Error("a floor without bins has error", e)
	}
}

// TestAnyNumbers calls everything with numbers that are seldom allowed.
func TestAnyNumbers(t *testing.T) {
	r := rand.New(rand.NewPCG(41, 43))
	some := func(most int) int {
		all := []int{math.MinInt, math.MinInt + 1, -2, -1, 5, 6, 8, 300, 301, 4000, 4001, math.MaxInt - 1, math.MaxInt}
		if r.IntN(40) > 0 {
			return r.IntN(most)
		}
		return all[r.IntN(len(all))]
	}
	fine := 0
	for range 10000 {
		f := floor.Floor{Bears: list(some(300), some(300))}
		for range 2 + r.IntN(2) {
			n := some(5)
			f.Bins = append(f.Bins, bin(some(90), n, 4-n))
		}
		for range r.IntN(4) {
			from := some(len(f.Bins)+1) - 1
			f.Turnings = append(f.Turnings, move(from, (from+2)%3-1, 1+some(20)))
		}
		for range r.IntN(3) {
			f.Rules = append(f.Rules, rule(some(2), 1+some(2)))
		}
		o := others{turning: some(3), bay: some(2), a: some(3), b: some(3), rule: rule(some(3), some(3))}
		for range len(f.Turnings) {
			o.order = append(o.order, some(3))
			o.pays = append(o.pays, pay(some(3), some(3), some(9)))
		}
		for _, call := range calls(o) {
			if zero, e := call.do(f); e != api.OK && !zero {
				t.Error(call.name, "has a result beside error", e)
			}
		}
		if floor.Check(f) == api.OK {
			fine++
		}
	}
	if fine < 1000 || fine > 9000 {
		t.Error(fine, "floors are allowed")
	}
}

func TestLongLists(t *testing.T) {
	o := others{order: make([]int, 1<<20), pays: slices.Repeat(pays(pay(2, 0, 1)), 1<<20)}
	f := barn(rule(0, 2))
	if _, e := floor.Loads(f, o.order); e != api.ErrMany {
		t.Error("a long order has error", e)
	}
	if n, e := floor.Bounds(f, 0, o.pays); n != 0 || e != api.ErrWrong {
		t.Error("many payments bound", n, e)
	}
	if n, e := floor.Bounds(f, 0, o.pays[:80]); n != 380 || e != api.OK {
		t.Error("80 payments of a quarter bound", n, e)
	}
}
