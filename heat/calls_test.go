package heat_test

import (
	"math"
	"math/rand/v2"
	"slices"
	"testing"

	"staddle/api"
	"staddle/heat"
)

// call is a function that takes a barn, with its other arguments as they are given, and says whether its result is zero.
type call struct {
	name string
	do   func(b heat.Barn) (zero bool, e api.Errno)
}

// others are arguments beside a barn.
type others struct {
	bin, days   int
	plan, start [][]int
	damp        api.Span
	wall        []heat.State
}

// calls are all functions that take a barn but Check.
func calls(o others) []call {
	number := func(f func(b heat.Barn) (int, api.Errno)) func(b heat.Barn) (bool, api.Errno) {
		return func(b heat.Barn) (bool, api.Errno) { n, e := f(b); return n == 0, e }
	}
	return []call{
		{"Rises", func(b heat.Barn) (bool, api.Errno) { s, e := heat.Rises(b, o.bin); return s == api.Span{}, e }},
		{"Left", number(func(b heat.Barn) (int, api.Errno) { return heat.Left(b, o.bin) })},
		{"Lasts", number(func(b heat.Barn) (int, api.Errno) { return heat.Lasts(b, o.bin) })},
		{"Sample", func(b heat.Barn) (bool, api.Errno) {
			c, e := heat.Sample(b, o.bin, o.damp)
			return sameBarn(c, heat.Barn{}), e
		}},
		{"Warmth", func(b heat.Barn) (bool, api.Errno) { l, e := heat.Warmth(b, o.plan, o.bin); return len(l) == 0, e }},
		{"Keeps", func(b heat.Barn) (bool, api.Errno) { is, e := heat.Keeps(b, o.plan); return !is, e }},
		{"Burns", func(b heat.Barn) (bool, api.Errno) { d, k, e := heat.Burns(b, o.plan); return d == 0 && k == 0, e }},
		{"After", func(b heat.Barn) (bool, api.Errno) { c, e := heat.After(b, o.plan); return sameBarn(c, heat.Barn{}), e }},
		{"Longest", number(heat.Longest)},
		{"First", number(heat.First)},
		{"Spare", number(heat.Spare)},
		{"Plan", func(b heat.Barn) (bool, api.Errno) { p, e := heat.Plan(b, o.days); return len(p) == 0, e }},
		{"Turnings", number(func(b heat.Barn) (int, api.Errno) { return heat.Turnings(b, o.days) })},
		{"Round", func(b heat.Barn) (bool, api.Errno) {
			start, round, e := heat.Round(b)
			return len(start) == 0 && len(round) == 0, e
		}},
		{"Goes", func(b heat.Barn) (bool, api.Errno) { is, e := heat.Goes(b, o.start, o.plan); return !is, e }},
		{"Wall", func(b heat.Barn) (bool, api.Errno) { l, e := heat.Wall(b); return len(l) == 0, e }},
		{"Shows", number(func(b heat.Barn) (int, api.Errno) { return heat.Shows(b, o.wall) })},
	}
}

// strange are arguments that are not allowed, for which each call that takes one has an error of its own.
func strange() others {
	return others{bin: 9, days: 99, plan: plan(day(9)), start: make([][]int, 20001), damp: span(-1, 6), wall: nil}
}

func TestErrorsOfBarnsComeFirst(t *testing.T) {
	five, hot, late := barn(3), barn(3), barn(3)
	five.Bins = append(five.Bins, five.Bins[:2]...)
	five.Cool, five.Rise[5] = -1, 7
	hot.Bins[2].Warm, hot.Bins[1].Damp = 41, span(3, 2)
	late.Bins[2].Damp = span(4, 3)
	for _, x := range []struct {
		b heat.Barn
		e api.Errno
	}{{heat.Barn{}, api.ErrMany}, {five, api.ErrMany}, {hot, api.ErrRange}, {late, api.ErrOrder}} {
		if e := heat.Check(x.b); e != x.e {
			t.Error("Check has error", e, "and should have", x.e)
		}
		for _, o := range []others{strange(), {}} {
			for _, call := range calls(o) {
				if zero, e := call.do(x.b); e != x.e || !zero {
					t.Error(call.name, "has error", e, "and should have", x.e, "; its result is zero:", zero)
				}
			}
		}
	}
}

// TestErrorsInOrder asks of a barn that is kept for ever, and of one that is not.
func TestErrorsInOrder(t *testing.T) {
	const ok, no, many, far, order, none, clash, wrong = api.OK, api.ErrNot, api.ErrMany, api.ErrRange, api.ErrOrder, api.ErrNone, api.ErrClash, api.ErrWrong
	allowed := others{bin: 1, days: 3, plan: plan(nil, day(0), day(1)), damp: span(2, 5), wall: wallOfThree()}
	late := others{bin: 2, days: 4, plan: plan(nil, nil, nil), start: plan(nil, nil, nil), damp: span(4, 3), wall: wallOfThree()[1:]}
	for _, x := range []struct {
		name string
		b    heat.Barn
		o    others
		want map[string]api.Errno
	}{
		{"strange", barn(2), strange(), map[string]api.Errno{"Rises": no, "Left": no, "Lasts": no, "Sample": no, "Warmth": no, "Keeps": no, "Burns": no, "After": no,
			"Longest": ok, "First": none, "Spare": ok, "Plan": far, "Turnings": far, "Round": ok, "Goes": many, "Wall": none, "Shows": many}},
		{"allowed", barn(2), allowed, map[string]api.Errno{"Rises": ok, "Left": ok, "Lasts": ok, "Sample": ok, "Warmth": ok, "Keeps": ok, "Burns": none, "After": ok,
			"Longest": ok, "First": none, "Spare": ok, "Plan": ok, "Turnings": ok, "Round": ok, "Goes": ok, "Wall": none, "Shows": many}},
		{"allowed, of three bins", barn(3), allowed, map[string]api.Errno{"Rises": ok, "Left": ok, "Lasts": ok, "Sample": ok, "Warmth": ok, "Keeps": ok, "Burns": ok, "After": wrong,
			"Longest": ok, "First": ok, "Spare": ok, "Plan": ok, "Turnings": ok, "Round": none, "Goes": ok, "Wall": ok, "Shows": ok}},
		{"late", barn(3), late, map[string]api.Errno{"Rises": ok, "Left": ok, "Lasts": ok, "Sample": order, "Warmth": ok, "Keeps": ok, "Burns": ok, "After": wrong,
			"Longest": ok, "First": ok, "Spare": ok, "Plan": none, "Turnings": none, "Round": none, "Goes": ok, "Wall": ok, "Shows": wrong}},
		{"nothing", barn(3), others{damp: span(5, 5)}, map[string]api.Errno{"Rises": ok, "Left": ok, "Lasts": ok, "Sample": clash, "Warmth": ok, "Keeps": ok, "Burns": none, "After": ok,
			"Longest": ok, "First": ok, "Spare": ok, "Plan": ok, "Turnings": ok, "Round": none, "Goes": none, "Wall": ok, "Shows": many}},
	} {
		for _, call := range calls(x.o) {
			zero, e := call.do(x.b)
			if e != x.want[call.name] || e != api.OK && !zero {
				t.Error(x.name, ":", call.name, "has error", e, "and should have", x.want[call.name], "; its result is zero:", zero)
			}
		}
	}
}

// someOthers returns arguments that are allowed, but a wall may be none.
func someOthers(r *rand.Rand, b heat.Barn) others {
	o := others{bin: r.IntN(len(b.Bins)), days: r.IntN(heat.MaxDays + 1), plan: somePlan(r, b, 5), start: somePlan(r, b, 3)}
	o.damp = span(r.IntN(6), r.IntN(6))
	if wall, e := heat.Wall(b); e == api.OK {
		o.wall = wall
	}
	return o
}

// roomFor returns a list with room for more beyond its end.
func roomFor[T any](list []T) []T { return append(make([]T, 0, len(list)+20), list...) }

// roomyPlan returns a plan all of whose lists have room for more.
func roomyPlan(p [][]int) [][]int {
	var all [][]int
	for _, list := range p {
		all = append(all, roomFor(list))
	}
	return roomFor(all)
}

// isBare says whether a list has nothing beyond its end.
func isBare[T any](list []T, is func(T) bool) bool {
	return !slices.ContainsFunc(list[len(list):cap(list)], func(x T) bool { return !is(x) })
}

func isZero(n int) bool { return n == 0 }

func isBarePlan(p [][]int) bool {
	for _, list := range p {
		if !isBare(list, isZero) {
			return false
		}
	}
	return isBare(p, func(list []int) bool { return list == nil })
}

func isBareWall(wall []heat.State) bool {
	for _, s := range wall {
		if !isBare(s.Left, isZero) {
			return false
		}
	}
	return isBare(wall, func(s heat.State) bool { return s.Left == nil && s.Days == 0 })
}

func TestNothingIsChangedAndNothingIsKept(t *testing.T) {
	for _, make := range []func(r *rand.Rand) heat.Barn{someBarn, tightBarn} {
		trials(t, 100, make, func(r *rand.Rand, b heat.Barn) {
			b.Bins = roomFor(b.Bins)
			b0 := copyBarn(b)
			o := someOthers(r, b)
			o.plan, o.start = roomyPlan(o.plan), roomyPlan(o.start)
			for k, s := range o.wall {
				o.wall[k].Left = roomFor(s.Left)
			}
			o.wall = roomFor(o.wall)
			p, start, wall := copyPlan(o.plan), copyPlan(o.start), copyWall(o.wall)
			for _, call := range calls(o) {
				zero, e := call.do(b)
				again, f := call.do(b0)
				if zero != again || e != f {
					t.Error(call.name, "returns something else when it is asked again:", zero, e, again, f)
				}
				if !sameBarn(b, b0) || !samePlan(o.plan, p) || !samePlan(o.start, start) || !sameWall(o.wall, wall) {
					t.Error(call.name, "changes an argument")
				}
			}
			if !isBare(b.Bins, func(x heat.Bin) bool { return x == heat.Bin{} }) || !isBarePlan(o.plan) || !isBarePlan(o.start) || !isBareWall(o.wall) {
				t.Error("something was written beyond the end of a list")
			}
		})
	}
}

// scrawl writes over a plan, as far as there is room.
func scrawl(p [][]int) {
	for _, list := range p[:cap(p)] {
		for i := range list[:cap(list)] {
			list[:cap(list)][i] = -7
		}
	}
	for i := range p[:cap(p)] {
		p[:cap(p)][i] = nil
	}
}

// TestResultsAreNotKept writes over all that was answered first, beyond its end too.
func TestResultsAreNotKept(t *testing.T) {
	b := barn(3)
	sampled, _ := heat.Sample(b, 0, span(3, 3))
	after, _ := heat.After(b, plan(nil))
	same, _ := heat.After(b, nil)
	for _, c := range []heat.Barn{sampled, after, same} {
		for k := range c.Bins[:cap(c.Bins)] {
			c.Bins[:cap(c.Bins)][k] = heat.Bin{Warm: -7}
		}
	}
	if !sameBarn(b, barn(3)) {
		t.Error("a barn shares its bins with the one that it came from:", b)
	}
	spans := func() []api.Span { l, _ := heat.Warmth(b, plan(nil, nil), 0); return l }
	first := spans()
	was := slices.Clone(first)
	clear(first[:cap(first)])
	if !slices.Equal(spans(), was) {
		t.Error("Warmth returns", spans(), "and returned", was)
	}
	best := func() [][]int { p, _ := heat.Plan(b, 3); return p }
	p := best()
	pWas := copyPlan(p)
	scrawl(p)
	if !samePlan(best(), pWas) {
		t.Error("Plan returns", best(), "and returned", pWas)
	}
	walls := func() []heat.State { l, _ := heat.Wall(b); return l }
	wall := walls()
	wallWas := copyWall(wall)
	for k, s := range wall {
		clear(s.Left[:cap(s.Left)])
		if !slices.EqualFunc(wall[k+1:], wallWas[k+1:], func(x, y heat.State) bool { return slices.Equal(x.Left, y.Left) }) {
			t.Error("states of a wall share memory")
		}
	}
	clear(wall[:cap(wall)])
	if !sameWall(walls(), wallWas) {
		t.Error("Wall returns", walls(), "and returned", wallWas)
	}
}

// TestListsOfAPlanShareNoMemory writes over one of them after the other.
func TestListsOfAPlanShareNoMemory(t *testing.T) {
	b := steady(3, 3, 3, 2, 2)
	start, round, e := heat.Round(b)
	p, f := heat.Plan(b, 9)
	if e != api.OK || f != api.OK || turnings(p) < 4 || turnings(round) < 4 {
		t.Fatal("there are", start, round, e, p, f)
	}
	startWas, roundWas := copyPlan(start), copyPlan(round)
	scrawl(start)
	if !samePlan(round, roundWas) {
		t.Error("a start", startWas, "shares memory with its round", round)
	}
	for _, one := range [][][]int{p, round} {
		was := copyPlan(one)
		for k, list := range one {
			for i := range list[:cap(list)] {
				list[:cap(list)][i] = -7
			}
			if !samePlan(one[k+1:], was[k+1:]) {
				t.Error("the lists of", was, "share memory")
			}
		}
	}
}

func TestNilListsAreAsEmptyOnes(t *testing.T) {
	o := others{days: 2, plan: plan(nil, nil), start: nil, wall: nil}
	same := others{days: 2, plan: plan(day(), day()), start: plan(), wall: []heat.State{}}
	for _, b := range []heat.Barn{barn(2), barn(3), {}, {Bins: []heat.Bin{}}} {
		for i, call := range calls(o) {
			zero, e := call.do(b)
			again, f := calls(same)[i].do(b)
			if zero != again || e != f {
				t.Error(call.name, "returns another result for empty lists:", zero, e, again, f)
			}
		}
	}
}

// TestAnyNumbers calls everything with numbers that are seldom allowed.
func TestAnyNumbers(t *testing.T) {
	r := rand.New(rand.NewPCG(7, 11))
	some := func(most int) int {
		all := []int{math.MinInt, math.MinInt + 1, -2, -1, 4, 5, 6, 10, 11, 20, 21, 60, 61, heat.Ever, math.MaxInt - 1, math.MaxInt}
		if r.IntN(25) > 0 {
			return r.IntN(most)
		}
		return all[r.IntN(len(all))]
	}
	days := func() [][]int {
		var p [][]int
		for range r.IntN(4) {
			var list []int
			for range r.IntN(3) {
				list = append(list, some(3))
			}
			slices.Sort(list)
			p = append(p, list)
		}
		return p
	}
	fine := 0
	for range 10000 {
		b := heat.Barn{Cool: some(30), Gangs: some(4), Rise: [6]int{0, 0, 6, 8, 10, 20}}
		b.Rise[r.IntN(6)] = some(21)
		for range r.IntN(5) {
			b.Bins = append(b.Bins, bin(some(20), 20+some(40), some(3), 2+some(4)))
		}
		o := others{bin: some(4), days: some(8), plan: days(), start: days(), damp: span(some(6), some(6))}
		for range r.IntN(4) {
			s := heat.State{Days: some(4)}
			for range len(b.Bins) {
				s.Left = append(s.Left, some(10))
			}
			o.wall = append(o.wall, s)
		}
		for _, call := range calls(o) {
			if zero, e := call.do(b); e != api.OK && !zero {
				t.Error(call.name, "has a result beside error", e)
			}
		}
		if heat.Check(b) == api.OK {
			fine++
		}
	}
	if fine < 1000 || fine > 9000 {
		t.Error(fine, "barns are allowed")
	}
}
