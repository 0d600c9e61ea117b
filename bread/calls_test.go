package bread_test

import (
	"math"
	"math/rand/v2"
	"slices"
	"testing"

	"staddle/api"
	"staddle/bread"
)

// call is a function that takes a town, with its other arguments as they are given, and says whether its result is zero.
type call struct {
	name string
	do   func(w bread.Town) (zero bool, e api.Errno)
}

// others are arguments beside a town.
type others struct {
	s                   bread.State
	ration, bads, years int
	bad                 bool
	rations             []int
	harvests            []bool
	table               []bread.Row
	fates               []bread.Fate
}

// calls are all functions that take a town but Check.
func calls(o others) []call {
	type town = bread.Town
	number := func(do func(w town) (int, api.Errno)) func(w town) (bool, api.Errno) {
		return func(w town) (bool, api.Errno) { n, e := do(w); return n == 0, e }
	}
	numbers := func(do func(w town) ([]int, api.Errno)) func(w town) (bool, api.Errno) {
		return func(w town) (bool, api.Errno) { l, e := do(w); return len(l) == 0, e }
	}
	return []call{
		{"Allowed", numbers(func(w town) ([]int, api.Errno) { return bread.Allowed(w, o.s) })},
		{"Next", func(w town) (bool, api.Errno) {
			s, e := bread.Next(w, o.s, o.ration, o.bad)
			return s == bread.State{}, e
		}},
		{"Play", func(w town) (bool, api.Errno) {
			all, e := bread.Play(w, o.rations, o.harvests)
			return len(all) == 0, e
		}},
		{"Year", func(w town) (bool, api.Errno) {
			y, e := bread.Year(w, o.ration, o.bad)
			return sameTown(y, town{}), e
		}},
		{"Lasts", number(bread.Lasts)},
		{"From", number(func(w town) (int, api.Errno) { return bread.From(w, o.s) })},
		{"Choose", numbers(bread.Choose)},
		{"Table", func(w town) (bool, api.Errno) { l, e := bread.Table(w); return len(l) == 0, e }},
		{"Feeds", number(func(w town) (int, api.Errno) { return bread.Feeds(w, o.table) })},
		{"Fates", func(w town) (bool, api.Errno) { l, e := bread.Fates(w); return len(l) == 0, e }},
		{"Starves", number(func(w town) (int, api.Errno) { return bread.Starves(w, o.fates) })},
		{"Needs", number(func(w town) (int, api.Errno) { return bread.Needs(w, o.bads) })},
		{"Earns", number(func(w town) (int, api.Errno) { return bread.Earns(w, o.years) })},
	}
}

// strange are arguments that are not allowed, for which each call that takes one has an error of its own.
func strange() others {
	return others{s: state(99, 0, 0), ration: 9, bads: -1, years: 13, bad: true, rations: list(1), table: make([]bread.Row, 497), fates: make([]bread.Fate, 497)}
}

// allowed are arguments that are allowed for the town of the chapter's examples.
func allowed() others {
	return others{s: state(12, 1, 1), bads: 3, years: 3, rations: list(1, 0), harvests: bads(true, true),
		table: rows(row(state(8, 0, 0), 0, 0), row(state(10, 0, 0), 0, 0), row(state(12, 0, 0), 0, 0)), fates: fates(fate(state(0, 0, 0), 0), fate(state(8, 1, 2), 1))[:1]}
}

// changed returns arguments that are allowed, changed.
func changed(change func(o *others)) others {
	o := allowed()
	change(&o)
	return o
}

func TestErrorsOfTownsComeFirst(t *testing.T) {
	for _, x := range []struct {
		w bread.Town
		e api.Errno
	}{
		{bread.Town{}, api.ErrMany}, {but(func(t *bread.Town) { t.Rations = make([]bread.Ration, 5) }), api.ErrMany},
		{mill(13), api.ErrRange}, {but(func(t *bread.Town) { t.Bad, t.Rot = 7, 6 }), api.ErrRange}, {but(func(t *bread.Town) { t.Now.Dry = 3 }), api.ErrRange},
		{but(func(t *bread.Town) { t.Bad = 7 }), api.ErrOrder}, {but(func(t *bread.Town) { t.Rations[1].Sacks = 4 }), api.ErrOrder},
	} {
		if e := bread.Check(x.w); e != x.e {
			t.Error("Check has error", e, "and should have", x.e)
		}
		for _, o := range []others{strange(), allowed(), {}} {
			for _, call := range calls(o) {
				if zero, e := call.do(x.w); e != x.e || !zero {
					t.Error(call.name, "has error", e, "and should have", x.e, "; its result is zero:", zero)
				}
			}
		}
	}
}

// TestErrorsInOrder asks of towns that last a number, ever, and never.
func TestErrorsInOrder(t *testing.T) {
	const no, many, out, twice, none, clash, wrong, full = api.ErrNot, api.ErrMany, api.ErrRange, api.ErrTwice, api.ErrNone, api.ErrClash, api.ErrWrong, api.ErrFull
	type errors = map[string]api.Errno
	odd := errors{"Allowed": out, "Next": out, "Play": many, "Year": no, "From": out, "Feeds": many, "Starves": many, "Needs": out, "Earns": out}
	with := func(some errors, more errors) errors {
		all := errors{}
		for _, m := range []errors{some, more} {
			for name, e := range m {
				all[name] = e
			}
		}
		return all
	}
	first := func(o others) others { o.table, o.fates = nil, nil; return o }
	for _, x := range []struct {
		name string
		w    bread.Town
		o    others
		want errors
	}{
		{"allowed", mill(8), allowed(), errors{"Starves": none}},
		{"nothing", mill(8), others{}, errors{"Next": full, "Feeds": none, "Starves": none}},
		{"strange", mill(8), strange(), odd},
		{"strange, and never", mill(1), strange(), with(odd, errors{"Choose": none, "Table": none})},
		{"strange, and ever", hut(2, 1, 2, 0), strange(), with(odd, errors{"Fates": none})},
		{"never", mill(1), first(allowed()), errors{"Play": full, "Year": full, "Choose": none, "Table": none, "Feeds": none, "Starves": none, "Earns": none}},
		{"no rations that there are", mill(8), changed(func(o *others) { o.ration, o.bad, o.s, o.rations = 2, true, state(1, 1, 2), list(2, 0) }), errors{"Next": no, "Year": no, "Play": no, "Starves": none}},
		{"no rations that are allowed", mill(3), changed(func(o *others) { o.bad, o.s, o.rations = true, state(1, 1, 2), list(0, 2) }), errors{"Next": full, "Year": full, "Play": full, "Needs": api.OK, "Earns": none, "Feeds": none, "Starves": none}},
		{"no harvests that may come", at(mill(0), state(8, 0, 2)), changed(func(o *others) { o.bad, o.s = true, state(12, 0, 2) }), errors{"Next": clash, "Year": clash, "Play": clash, "Feeds": none, "Starves": none}},
		{"rows and fates that are not allowed, before others that clash", mill(8), changed(func(o *others) {
			o.table = rows(row(state(8, 0, 0), 9, 0), row(state(8, 0, 0), 9, 0), row(state(8, 0, 0), 0, 9))
			o.fates = fates(fate(state(8, 0, 0), 0), fate(state(8, 0, 3), 0))
		}), errors{"Feeds": no, "Starves": out}},
		{"rows that are there twice, and do not hold", mill(8), changed(func(o *others) {
			o.table = rows(row(state(8, 0, 0), 9, 0), row(state(8, 0, 0), 9, 0))
			o.fates = fates(fate(state(8, 0, 0), 0))
		}), errors{"Feeds": twice, "Starves": wrong}},
		{"rows that do not hold, and none of the town", mill(8), changed(func(o *others) {
			o.table = rows(row(state(6, 0, 0), 9, 0))
			o.fates = fates(fate(state(6, 0, 0), 0))
		}), errors{"Feeds": wrong, "Starves": wrong}},
		{"no stock and no rule", mill(8), changed(func(o *others) { o.bads, o.years = 6, 6 }), errors{"Needs": none, "Earns": none, "Starves": none}},
	} {
		for _, call := range calls(x.o) {
			zero, e := call.do(x.w)
			if e != x.want[call.name] || e != api.OK && !zero {
				t.Error(x.name, ":", call.name, "has error", e, "and should have", x.want[call.name], "; its result is zero:", zero)
			}
		}
	}
}

// someOthers returns arguments that are allowed for a town but for some.
func someOthers(r *rand.Rand, w bread.Town) others {
	o := others{s: someState(r, w), ration: r.IntN(len(w.Rations)), bads: r.IntN(4), years: r.IntN(6), bad: r.IntN(2) == 0, table: someTable(r, w), fates: someFates(r, w)}
	o.rations, o.harvests = someYears(r, w, 6)
	return o
}

// roomFor returns a list with room for more beyond its end.
func roomFor[T any](l []T) []T { return append(make([]T, 0, len(l)+20), l...) }

// isBare says whether a list has nothing beyond its end.
func isBare[T comparable](l []T) bool {
	var zero T
	return !slices.ContainsFunc(l[len(l):cap(l)], func(x T) bool { return x != zero })
}

func sameOthers(a, b others) bool {
	lists := slices.Equal(a.rations, b.rations) && slices.Equal(a.harvests, b.harvests) && slices.Equal(a.table, b.table) && slices.Equal(a.fates, b.fates)
	return lists && a.s == b.s && a.ration == b.ration && a.bads == b.bads && a.years == b.years && a.bad == b.bad
}

func TestNothingIsChangedAndNothingIsKept(t *testing.T) {
	trials(t, 60, func(r *rand.Rand, w bread.Town) {
		o := someOthers(r, w)
		o0, w0 := o, copyTown(w)
		o0.rations, o0.harvests, o0.table, o0.fates = slices.Clone(o.rations), slices.Clone(o.harvests), slices.Clone(o.table), slices.Clone(o.fates)
		w.Rations = roomFor(w.Rations)
		o.rations, o.harvests, o.table, o.fates = roomFor(o.rations), roomFor(o.harvests), roomFor(o.table), roomFor(o.fates)
		for _, call := range calls(o) {
			zero, e := call.do(w)
			again, f := call.do(w0)
			if zero != again || e != f {
				t.Error(call.name, "returns something else when it is asked again:", zero, e, again, f)
			}
			if !sameTown(w, w0) || !sameOthers(o, o0) {
				t.Error(call.name, "changes an argument")
			}
			if !isBare(w.Rations) || !isBare(o.rations) || !isBare(o.harvests) || !isBare(o.table) || !isBare(o.fates) {
				t.Error(call.name, "writes beyond the end of a list")
			}
		}
	})
}

func TestSharesChangeNothing(t *testing.T) {
	wants, shares := roomFor(list(2, 7, 5)), roomFor(list(2, 4, 4))
	got, e := bread.Share(10, wants)
	is, f := bread.Fair(10, wants, shares)
	clear(got[:cap(got)])
	again, g := bread.Share(10, wants)
	if e != api.OK || f != api.OK || g != api.OK || !is || !slices.Equal(again, shares) || !slices.Equal(wants, list(2, 7, 5)) || !isBare(wants) || !isBare(shares) {
		t.Error("after", again, is, "there are", wants, shares, e, f, g)
	}
}

// TestTheSameIsReturnedAgain compares all results, as any table and fates are right but just one is returned, and writes over what
// was answered first, beyond its end too.
func TestTheSameIsReturnedAgain(t *testing.T) {
	trials(t, 60, func(r *rand.Rand, w bread.Town) {
		table, _ := bread.Table(w)
		all, _ := bread.Fates(w)
		can, _ := bread.Allowed(w, w.Now)
		best, _ := bread.Choose(w)
		table0, all0, can0, best0 := slices.Clone(table), slices.Clone(all), slices.Clone(can), slices.Clone(best)
		clear(table[:cap(table)])
		clear(all[:cap(all)])
		clear(can[:cap(can)])
		clear(best[:cap(best)])
		table, _ = bread.Table(w)
		all, _ = bread.Fates(w)
		can, _ = bread.Allowed(w, w.Now)
		best, _ = bread.Choose(w)
		if !slices.Equal(table, table0) || !slices.Equal(all, all0) || !slices.Equal(can, can0) || !slices.Equal(best, best0) {
			t.Error(w, "has", table, all, can, best, "and had", table0, all0, can0, best0)
		}
	})
	first, _ := bread.Play(mill(8), list(1, 0), bads(true, true))
	clear(first[:cap(first)])
	if again, e := bread.Play(mill(8), list(1, 0), bads(true, true)); !slices.Equal(again, states(state(6, 1, 1), state(2, 0, 2))) || e != api.OK {
		t.Error("Play returns", again, e)
	}
}

// TestTownsShareNoMemory writes over a town that came from another one, and over the other one.
func TestTownsShareNoMemory(t *testing.T) {
	w := mill(8)
	w.Rations = roomFor(w.Rations)
	y, e := bread.Year(w, 0, true)
	was := copyTown(y)
	for k := range w.Rations {
		w.Rations[k].Price++
	}
	if e != api.OK || !sameTown(y, was) {
		t.Error("a town shares memory with the one from which it came:", y, e)
	}
	w0 := copyTown(w)
	clear(y.Rations[:cap(y.Rations)])
	if !sameTown(w, w0) || !isBare(w.Rations) {
		t.Error("a town shares memory with one that came from it:", w)
	}
}

func TestNilListsAreAsEmptyOnes(t *testing.T) {
	for _, x := range []struct{ w, same bread.Town }{
		{mill(8), mill(8)}, {mill(1), mill(1)}, {hut(2, 1, 2, 0), hut(2, 1, 2, 0)}, {bread.Town{}, bread.Town{Rations: []bread.Ration{}}},
	} {
		for i, call := range calls(others{}) {
			zero, e := call.do(x.w)
			again, f := calls(others{rations: list(), harvests: bads(), table: rows(), fates: fates()})[i].do(x.same)
			if zero != again || e != f {
				t.Error(call.name, "returns another result for empty lists:", zero, e, again, f)
			}
		}
	}
	for _, none := range [][]int{nil, list()} {
		got, e := bread.Share(5, none)
		is, f := bread.Fair(5, none, nil)
		also, g := bread.Fair(5, none, list())
		if len(got) != 0 || !is || !also || e != api.OK || f != api.OK || g != api.OK {
			t.Error("no bakers get", got, is, also, e, f, g)
		}
	}
}

// TestAnyNumbers calls everything with numbers that are seldom allowed.
func TestAnyNumbers(t *testing.T) {
	r := rand.New(rand.NewPCG(7, 12))
	all := list(math.MinInt, math.MinInt+1, -2, -1, 4, 5, 12, 13, 30, 31, 100, 101, 1000, 1001, ever, ever+1, math.MaxInt-1, math.MaxInt)
	some := func(below int) int {
		if r.IntN(40) > 0 {
			return r.IntN(below)
		}
		return all[r.IntN(len(all))]
	}
	any := func() bread.State { return state(some(8), some(2), some(2)) }
	fine := 0
	for range 10000 {
		w := bread.Town{Now: any(), Holds: 7 + some(3), Need: some(5), Patience: 1 + some(2), Run: 1 + some(2), Good: 3 + some(3), Bad: some(4), Rot: some(4)}
		for k := range r.IntN(4) {
			w.Rations = append(w.Rations, sold(6-2*k+some(2), 20*k+some(20)))
		}
		o := others{s: any(), ration: some(3), bads: some(9), years: some(13), bad: r.IntN(2) == 0}
		for range r.IntN(4) {
			o.rations, o.harvests = append(o.rations, some(3)), append(o.harvests, r.IntN(2) == 0)
			o.table, o.fates = append(o.table, row(any(), some(3), some(3))), append(o.fates, fate(any(), some(3)))
		}
		for _, call := range calls(o) {
			if zero, e := call.do(w); e != api.OK && !zero {
				t.Error(call.name, "has a result beside error", e)
			}
		}
		if got, e := bread.Share(some(9), list(some(3), some(3))); e != api.OK && len(got) > 0 {
			t.Error("Share has a result beside error", e)
		}
		if is, e := bread.Fair(some(9), list(some(3), some(3)), list(some(3), some(3))); e != api.OK && is {
			t.Error("Fair has a result beside error", e)
		}
		if bread.Check(w) == api.OK {
			fine++
		}
	}
	if fine < 1000 || fine > 9000 {
		t.Error(fine, "towns are allowed")
	}
}
