package turn_test

import (
	"math"
	"math/rand/v2"
	"slices"
	"testing"

	"staddle/api"
	"staddle/turn"
)

// call is a function that takes a barn, with its other arguments as they are given, and says whether its result is zero.
type call struct {
	name string
	do   func(b turn.Barn) (zero bool, e api.Errno)
}

// others are arguments beside a barn.
type others struct {
	lot, to, gangs int
	rings          [][]int
	plan           []turn.Turning
	rounds         [][]turn.Turning
}

// calls are all functions that take a barn but Check.
func calls(o others) []call {
	type barn = turn.Barn
	number := func(do func(b barn) (int, api.Errno)) func(b barn) (bool, api.Errno) {
		return func(b barn) (bool, api.Errno) { n, e := do(b); return n == 0, e }
	}
	numbers := func(do func(b barn) ([]int, api.Errno)) func(b barn) (bool, api.Errno) {
		return func(b barn) (bool, api.Errno) { l, e := do(b); return len(l) == 0, e }
	}
	turnings := func(do func(b barn) ([]turn.Turning, api.Errno)) func(b barn) (bool, api.Errno) {
		return func(b barn) (bool, api.Errno) { l, e := do(b); return len(l) == 0, e }
	}
	whether := func(do func(b barn) (bool, api.Errno)) func(b barn) (bool, api.Errno) {
		return func(b barn) (bool, api.Errno) { is, e := do(b); return !is, e }
	}
	other := func(do func(b barn) (barn, api.Errno)) func(b barn) (bool, api.Errno) {
		return func(b barn) (bool, api.Errno) { c, e := do(b); return sameBarn(c, barn{}), e }
	}
	return []call{
		{"Free", numbers(turn.Free)},
		{"Holds", numbers(func(b barn) ([]int, api.Errno) { return turn.Holds(b, o.lot) })},
		{"Must", numbers(turn.Must)},
		{"Rings", func(b barn) (bool, api.Errno) { l, e := turn.Rings(b); return len(l) == 0, e }},
		{"Shows", number(func(b barn) (int, api.Errno) { return turn.Shows(b, o.rings) })},
		{"After", other(func(b barn) (barn, api.Errno) { return turn.After(b, o.plan) })},
		{"Makes", whether(func(b barn) (bool, api.Errno) { return turn.Makes(b, o.plan) })},
		{"Back", turnings(func(b barn) ([]turn.Turning, api.Errno) { return turn.Back(b, o.plan) })},
		{"Sacks", number(func(b barn) (int, api.Errno) { return turn.Sacks(b, o.plan) })},
		{"Fewest", number(turn.Fewest)},
		{"Plan", turnings(turn.Plan)},
		{"Lightest", func(b barn) (bool, api.Errno) { p, n, e := turn.Lightest(b); return len(p) == 0 && n == 0, e }},
		{"Rounds", func(b barn) (bool, api.Errno) { l, e := turn.Rounds(b, o.gangs); return len(l) == 0, e }},
		{"Least", number(func(b barn) (int, api.Errno) { return turn.Least(b, o.gangs) })},
		{"Works", whether(func(b barn) (bool, api.Errno) { return turn.Works(b, o.gangs, o.rounds) })},
		{"Places", number(turn.Places)},
		{"Aim", other(func(b barn) (barn, api.Errno) { return turn.Aim(b, o.lot, o.to) })},
	}
}

// strange are arguments that are not allowed, for which each call that takes one has an error of its own.
func strange() others {
	return others{lot: 9, to: 9, gangs: 9, rings: lists(list(9)), plan: make([]turn.Turning, 6001), rounds: make([][]turn.Turning, 6001)}
}

// allowed are arguments that are allowed for the barn of the chapter's first example.
func allowed() others {
	return others{lot: 2, to: 3, gangs: 2, rings: lists(list(0, 1)), plan: plan(to(1, 3), to(0, 1), to(1, 0)), rounds: rounds(plan(to(0, 3)), plan(to(1, 0)), plan(to(0, 1)))}
}

// changed returns arguments that are allowed, changed.
func changed(change func(o *others)) others {
	o := allowed()
	change(&o)
	return o
}

func TestErrorsOfBarnsComeFirst(t *testing.T) {
	for _, x := range []struct {
		b turn.Barn
		e api.Errno
	}{
		{turn.Barn{}, api.ErrMany}, {turn.Barn{Sizes: make([]int, 8)}, api.ErrMany}, {turn.Barn{Sizes: list(1), Lots: make([]turn.Lot, 7)}, api.ErrMany},
		{but(func(b *turn.Barn) { b.Sizes[1], b.Lots[0].In = 301, 9 }), api.ErrRange},
		{but(func(b *turn.Barn) { b.Lots[0].In, b.Lots[2].In = 9, 1 }), api.ErrNot},
		{but(func(b *turn.Barn) { b.Lots[2].In, b.Sizes[1] = 1, 0 }), api.ErrTwice},
		{but(func(b *turn.Barn) { b.Sizes[1] = 0 }), api.ErrFull},
	} {
		if e := turn.Check(x.b); e != x.e {
			t.Error("Check has error", e, "and should have", x.e)
		}
		for _, o := range []others{strange(), allowed(), {}} {
			for _, call := range calls(o) {
				if zero, e := call.do(x.b); e != x.e || !zero {
					t.Error(call.name, "has error", e, "and should have", x.e, "; its result is zero:", zero)
				}
			}
		}
	}
}

// TestErrorsInOrder asks of a barn that can be made right, and of one that cannot.
func TestErrorsInOrder(t *testing.T) {
	const no, many, out, order, twice, clash, wrong, full = api.ErrNot, api.ErrMany, api.ErrRange, api.ErrOrder, api.ErrTwice, api.ErrClash, api.ErrWrong, api.ErrFull
	// plans are the errors of all functions that take a plan, with those of others.
	plans := func(e api.Errno, more map[string]api.Errno) map[string]api.Errno {
		want := map[string]api.Errno{"After": e, "Makes": e, "Back": e, "Sacks": e}
		for name, f := range more {
			want[name] = f
		}
		return want
	}
	for _, x := range []struct {
		name string
		b    turn.Barn
		o    others
		want map[string]api.Errno
	}{
		{"allowed", three(50), allowed(), nil},
		{"nothing", three(50), others{}, map[string]api.Errno{"Aim": twice, "Rounds": out, "Least": out, "Works": out}},
		{"strange", three(50), strange(), plans(many, map[string]api.Errno{"Holds": no, "Shows": no, "Rounds": out, "Least": out, "Works": out, "Aim": no})},
		{"strange, and no plan", three(15), strange(), plans(many, map[string]api.Errno{"Holds": no, "Shows": no, "Rounds": out, "Least": out, "Works": out, "Aim": no, "Fewest": clash, "Plan": clash, "Lightest": clash})},
		{"no plan", three(15), changed(func(o *others) { o.plan, o.rounds = nil, nil }), map[string]api.Errno{"Rounds": clash, "Least": clash, "Aim": full, "Fewest": clash, "Plan": clash, "Lightest": clash}},
		{"a lot that there is not, to a bin that there is not", three(50), changed(func(o *others) { o.lot, o.to = 3, 4 }), map[string]api.Errno{"Holds": no, "Aim": no}},
		{"a lot to the bin of another one, which does not hold it", but(func(b *turn.Barn) { b.Sizes[0], b.Lots[0].Sacks = 30, 30 }), changed(func(o *others) { o.to = 0 }), map[string]api.Errno{"Aim": twice}},
		{"rounds that are too many", three(50), changed(func(o *others) { o.rounds = slices.Repeat(rounds(plan(to(9, 9))), 6001) }), map[string]api.Errno{"Works": many}},
		{"turnings that there are not, and others", three(15), changed(func(o *others) {
			o.plan = plan(to(9, 3), to(0, 0), to(0, 3))
			o.rounds = rounds(plan(to(1, 3), to(0, 3), to(3, 0)))
		}),
			plans(no, map[string]api.Errno{"Works": no, "Aim": full, "Fewest": clash, "Plan": clash, "Lightest": clash, "Rounds": clash, "Least": clash})},
		{"turnings out of order", three(50), changed(func(o *others) { o.rounds = rounds(plan(to(1, 3), to(0, 1))) }), map[string]api.Errno{"Works": order}},
		{"a bin that is not free, then one that there is not", three(50), changed(func(o *others) { o.plan = plan(to(0, 1), to(0, 9)); o.rounds = rounds(plan(to(0, 1)), plan(to(0, 9))) }),
			plans(twice, map[string]api.Errno{"Works": twice})},
		{"a bin that does not hold a lot, then one that there is not", three(25), changed(func(o *others) {
			o.to = -1
			o.plan = plan(to(0, 3), to(0, 9))
			o.rounds = rounds(plan(to(0, 3)), plan(to(0, 9)))
		}),
			plans(full, map[string]api.Errno{"Works": full})},
		{"more turnings than gangs, one into a bin that does not hold it", three(25, 50), changed(func(o *others) { o.to = 4; o.gangs = 1; o.rounds = rounds(plan(to(0, 3), to(1, 4))) }), map[string]api.Errno{"Works": full}},
		{"more turnings than gangs", three(25, 50), changed(func(o *others) { o.to = 4; o.gangs = 1; o.rounds = rounds(plan(to(0, 4), to(1, 3))) }), map[string]api.Errno{"Works": many}},
		{"rings that are none, with a lot twice", three(50), changed(func(o *others) { o.rings = lists(list(0, 2), list(0)) }), map[string]api.Errno{"Shows": twice}},
		{"rings that are none", three(50), changed(func(o *others) { o.rings = lists(list(0, 2)) }), map[string]api.Errno{"Shows": wrong}},
	} {
		for _, call := range calls(x.o) {
			zero, e := call.do(x.b)
			if e != x.want[call.name] || e != api.OK && !zero {
				t.Error(x.name, ":", call.name, "has error", e, "and should have", x.want[call.name], "; its result is zero:", zero)
			}
		}
	}
}

// someOthers returns arguments that are allowed for a barn but for some.
func someOthers(r *rand.Rand, b turn.Barn) others {
	o := others{lot: r.IntN(len(b.Lots) + 1), to: r.IntN(len(b.Sizes)+1) - 1, gangs: 1 + r.IntN(turn.MaxGangs), rings: ringsOf(b)}
	o.plan, o.rounds = somePlan(r, b, 6), someRounds(r, b, o.gangs, 4)
	return o
}

// roomFor returns a list with room for more beyond its end.
func roomFor[T any](l []T) []T { return append(make([]T, 0, len(l)+20), l...) }

func roomForLists[T any](all [][]T) [][]T {
	var roomy [][]T
	for _, l := range all {
		roomy = append(roomy, roomFor(l))
	}
	return roomFor(roomy)
}

// isBare says whether a list has nothing beyond its end.
func isBare[T comparable](l []T) bool {
	var zero T
	return !slices.ContainsFunc(l[len(l):cap(l)], func(x T) bool { return x != zero })
}

func areBare[T comparable](all [][]T) bool {
	return !slices.ContainsFunc(all, func(l []T) bool { return !isBare(l) }) &&
		!slices.ContainsFunc(all[len(all):cap(all)], func(l []T) bool { return l != nil })
}

func sameOthers(a, b others) bool {
	return a.lot == b.lot && a.to == b.to && a.gangs == b.gangs && sameLists(a.rings, b.rings) && slices.Equal(a.plan, b.plan) && sameRounds(a.rounds, b.rounds)
}

func TestNothingIsChangedAndNothingIsKept(t *testing.T) {
	trials(t, 60, func(r *rand.Rand, b turn.Barn) {
		o := someOthers(r, b)
		o0, b0 := o, copyBarn(b)
		o0.rings, o0.plan, o0.rounds = copyLists(o.rings), slices.Clone(o.plan), copyLists(o.rounds)
		b.Sizes, b.Lots = roomFor(b.Sizes), roomFor(b.Lots)
		o.rings, o.plan, o.rounds = roomForLists(o.rings), roomFor(o.plan), roomForLists(o.rounds)
		for _, call := range calls(o) {
			zero, e := call.do(b)
			again, f := call.do(b0)
			if zero != again || e != f {
				t.Error(call.name, "returns something else when it is asked again:", zero, e, again, f)
			}
			if !sameBarn(b, b0) || !sameOthers(o, o0) {
				t.Error(call.name, "changes an argument")
			}
			if !isBare(b.Sizes) || !isBare(b.Lots) || !areBare(o.rings) || !isBare(o.plan) || !areBare(o.rounds) {
				t.Error(call.name, "writes beyond the end of a list")
			}
		}
	})
}

// TestTheSameIsReturnedAgain compares all results, as any plan is right but just one is returned.
func TestTheSameIsReturnedAgain(t *testing.T) {
	trials(t, 60, func(r *rand.Rand, b turn.Barn) {
		p, _ := turn.Plan(b)
		q, _, _ := turn.Lightest(b)
		all, _ := turn.Rounds(b, 3)
		for range 3 {
			p1, _ := turn.Plan(b)
			q1, _, _ := turn.Lightest(b)
			all1, _ := turn.Rounds(b, 3)
			if !slices.Equal(p, p1) || !slices.Equal(q, q1) || !sameRounds(all, all1) {
				t.Error(b, "has the plans", p, q, all, "and then", p1, q1, all1)
			}
		}
	})
}

// TestBarnsShareNoMemory writes over barns that came from others, and over the lists of these.
func TestBarnsShareNoMemory(t *testing.T) {
	b := three(50)
	b.Sizes, b.Lots = roomFor(b.Sizes), roomFor(b.Lots)
	aimed, e := turn.Aim(b, 2, 3)
	after, f := turn.After(b, plan(to(1, 3)))
	same, g := turn.After(b, nil)
	if e != api.OK || f != api.OK || g != api.OK {
		t.Fatal(e, f, g)
	}
	for _, c := range []turn.Barn{aimed, after, same} {
		was := copyBarn(c)
		for k := range b.Sizes {
			b.Sizes[k]++
		}
		for k := range b.Lots {
			b.Lots[k].Sacks++
		}
		if !sameBarn(c, was) {
			t.Error("a barn shares memory with the one from which it came:", c)
		}
		b0 := copyBarn(b)
		clear(c.Sizes[:cap(c.Sizes)])
		clear(c.Lots[:cap(c.Lots)])
		if !sameBarn(b, b0) || !isBare(b.Sizes) || !isBare(b.Lots) {
			t.Error("a barn shares memory with one that came from it:", b)
		}
	}
}

// TestResultsAreNotKept writes over all that was answered first, beyond its end too.
func TestResultsAreNotKept(t *testing.T) {
	b := light(7, 1, 0, 3, 2)
	p := plan(to(0, 4), to(1, 5), to(0, 6))
	for name, numbers := range map[string]func() ([]int, api.Errno){
		"Free": func() ([]int, api.Errno) { return turn.Free(b) }, "Must": func() ([]int, api.Errno) { return turn.Must(b) },
		"Holds": func() ([]int, api.Errno) { return turn.Holds(b, 1) },
	} {
		first, _ := numbers()
		was := slices.Clone(first)
		clear(first[:cap(first)])
		if again, e := numbers(); !slices.Equal(again, was) || len(was) < 2 || e != api.OK {
			t.Error(name, "returns", again, e, "and returned", was)
		}
	}
	for name, turnings := range map[string]func() ([]turn.Turning, api.Errno){
		"Plan":     func() ([]turn.Turning, api.Errno) { return turn.Plan(b) },
		"Lightest": func() ([]turn.Turning, api.Errno) { q, _, e := turn.Lightest(b); return q, e },
		"Back":     func() ([]turn.Turning, api.Errno) { return turn.Back(b, p) },
	} {
		first, _ := turnings()
		was := slices.Clone(first)
		clear(first[:cap(first)])
		if again, e := turnings(); !slices.Equal(again, was) || len(was) < 3 || e != api.OK {
			t.Error(name, "returns", again, e, "and returned", was)
		}
	}
	if !slices.Equal(p, plan(to(0, 4), to(1, 5), to(0, 6))) {
		t.Error("a plan back shares memory with the plan")
	}
}

// areApart writes over one list after the other, and says whether the others remain as they were.
func areApart[T comparable](all [][]T) bool {
	was := copyLists(all)
	for k, l := range all {
		clear(l[:cap(l)])
		for j := k + 1; j < len(all); j++ {
			if !slices.Equal(all[j], was[j]) {
				return false
			}
		}
	}
	return true
}

func TestListsOfAResultShareNoMemory(t *testing.T) {
	b := light(7, 1, 0, 3, 2)
	rings, e := turn.Rings(b)
	all, f := turn.Rounds(b, 2)
	if e != api.OK || f != api.OK || len(rings) != 2 || len(all) != 3 {
		t.Fatal("there are", rings, all, e, f)
	}
	if !areApart(rings) || !areApart(all) {
		t.Error("lists share memory")
	}
}

func TestNilListsAreAsEmptyOnes(t *testing.T) {
	for _, x := range []struct{ b, same turn.Barn }{
		{light(3), turn.Barn{Sizes: list(9, 9, 9), Lots: []turn.Lot{}}}, {turn.Barn{}, turn.Barn{Sizes: list(), Lots: []turn.Lot{}}}, {three(50), three(50)}, {light(2, 0), light(2, 0)},
	} {
		for i, call := range calls(others{gangs: 1}) {
			zero, e := call.do(x.b)
			again, f := calls(others{gangs: 1, rings: lists(), plan: plan(), rounds: rounds()})[i].do(x.same)
			if zero != again || e != f {
				t.Error(call.name, "returns another result for empty lists:", zero, e, again, f)
			}
		}
	}
	if n, e := turn.Shows(three(50), lists(list())); n != 0 || e != api.ErrWrong {
		t.Error("an empty ring shows", n, e)
	}
	if is, e := turn.Works(light(2, 0), 1, rounds(nil, plan())); !is || e != api.OK {
		t.Error("empty rounds work:", is, e)
	}
}

// TestAnyNumbers calls everything with numbers that are seldom allowed.
func TestAnyNumbers(t *testing.T) {
	r := rand.New(rand.NewPCG(7, 11))
	all := list(math.MinInt, math.MinInt+1, -2, -1, 4, 5, 6, 7, 8, 300, 301, 6000, 6001, math.MaxInt-1, math.MaxInt)
	some := func(below int) int {
		if r.IntN(25) > 0 {
			return r.IntN(below)
		}
		return all[r.IntN(len(all))]
	}
	turnings := func() []turn.Turning {
		var p []turn.Turning
		for range r.IntN(4) {
			p = append(p, to(some(3), some(5)))
		}
		return p
	}
	fine := 0
	for range 10000 {
		b := turn.Barn{}
		for range r.IntN(6) {
			b.Sizes = append(b.Sizes, 5+some(300))
		}
		for k := range r.IntN(4) {
			b.Lots = append(b.Lots, lot(1+some(8), some(k+1), some(k+2)-1))
		}
		o := others{lot: some(4), to: some(6) - 1, gangs: some(4), plan: turnings(), rings: lists(list(some(3), some(3)), list(some(3)))[:r.IntN(3)]}
		for range r.IntN(3) {
			o.rounds = append(o.rounds, turnings())
		}
		for _, call := range calls(o) {
			if zero, e := call.do(b); e != api.OK && !zero {
				t.Error(call.name, "has a result beside error", e)
			}
		}
		if turn.Check(b) == api.OK {
			fine++
		}
	}
	if fine < 1000 || fine > 9000 {
		t.Error(fine, "barns are allowed")
	}
}

// TestLongLists has more elements than any list of the chapter has.
func TestLongLists(t *testing.T) {
	b := three(50)
	const n = 1000000
	for _, x := range []struct {
		name string
		e    api.Errno
		do   func() api.Errno
	}{
		{"Shows, of empty rings", api.ErrWrong, func() api.Errno { _, e := turn.Shows(b, make([][]int, n)); return e }},
		{"Shows, of one lot", api.ErrTwice, func() api.Errno { _, e := turn.Shows(b, lists(make([]int, n))); return e }},
		{"Shows, of rings of one lot", api.ErrTwice, func() api.Errno { _, e := turn.Shows(b, slices.Repeat(lists(list(0)), n)); return e }},
		{"Shows, with the last lot wrong", api.ErrNot, func() api.Errno { _, e := turn.Shows(b, lists(make([]int, n), list(3))); return e }},
		{"After", api.ErrMany, func() api.Errno { _, e := turn.After(b, make([]turn.Turning, n)); return e }},
		{"Works, of many rounds", api.ErrMany, func() api.Errno { _, e := turn.Works(b, 1, make([][]turn.Turning, n)); return e }},
		{"Works, of a long round", api.ErrOrder, func() api.Errno { _, e := turn.Works(b, 1, rounds(make([]turn.Turning, n))); return e }},
		{"Works, with the last turning wrong", api.ErrNot, func() api.Errno {
			_, e := turn.Works(b, 1, rounds(append(make([]turn.Turning, n), to(3, 0))))
			return e
		}},
	} {
		if e := x.do(); e != x.e {
			t.Error(x.name, "has error", e, "and should have", x.e)
		}
	}
}

// TestAllLimits has as many of everything as is allowed, and a barn in which all ways to lie must be gone through.
func TestAllLimits(t *testing.T) {
	b := turn.Barn{Sizes: slices.Repeat(list(300), 7)}
	for k, bin := range list(1, 0, 3, 2, 5, 4) {
		b.Lots = append(b.Lots, lot(300-k*7, k, bin))
	}
	askSearch(t, b, 9, 1695+293+279+265, 5040, api.OK)
	for gangs := 1; gangs <= 3; gangs++ {
		askRounds(t, b, gangs, 9, api.OK)
	}
	b.Lots = b.Lots[:4]
	askSearch(t, b, 6, 1158+293+279, 840, api.OK)
	for gangs, least := range list(6, 3, 3) {
		askRounds(t, b, gangs+1, least, api.OK)
	}
	p := make([]turn.Turning, 0, 6000)
	for k := range 3000 {
		p = append(p, to(k%4, 6), to(k%4, k%4))
	}
	if n, e := turn.Sacks(b, p); n != 1500*1158 || e != api.OK {
		t.Error("a plan of all limits moves", n, "sacks", e)
	}
	stuck := turn.Barn{Sizes: list(300, 300, 1, 1, 1, 1, 1), Lots: []turn.Lot{lot(300, 0, 1), lot(300, 1, 0), lot(1, 2, 3), lot(1, 3, 4), lot(1, 4, 5), lot(1, 5, 2)}}
	askSearch(t, stuck, 0, 0, 120, api.ErrClash)
	askRounds(t, stuck, 3, 0, api.ErrClash)
}
