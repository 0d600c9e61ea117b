package weevil_test

import (
	"math"
	"math/rand/v2"
	"slices"
	"testing"

	"staddle/api"
	"staddle/weevil"
)

// call is a function that takes a house, with its other arguments as they are given, and says whether its result is zero.
type call struct {
	name string
	do   func(h weevil.House) (zero bool, e api.Errno)
}

// others are arguments beside a house.
type others struct {
	week, speed, gap int
	from, keep, gaps []int
	ways, plan       [][]int
	sight            weevil.Sight
}

// calls are all functions that take a house but Check.
func calls(o others) []call {
	number := func(do func(h weevil.House) (int, api.Errno)) func(h weevil.House) (bool, api.Errno) {
		return func(h weevil.House) (bool, api.Errno) { n, e := do(h); return n == 0, e }
	}
	numbers := func(do func(h weevil.House) ([]int, api.Errno)) func(h weevil.House) (bool, api.Errno) {
		return func(h weevil.House) (bool, api.Errno) { l, e := do(h); return len(l) == 0, e }
	}
	many := func(do func(h weevil.House) ([][]int, api.Errno)) func(h weevil.House) (bool, api.Errno) {
		return func(h weevil.House) (bool, api.Errno) { l, e := do(h); return len(l) == 0, e }
	}
	whether := func(do func(h weevil.House) (bool, api.Errno)) func(h weevil.House) (bool, api.Errno) {
		return func(h weevil.House) (bool, api.Errno) { is, e := do(h); return !is, e }
	}
	house := func(do func(h weevil.House) (weevil.House, api.Errno)) func(h weevil.House) (bool, api.Errno) {
		return func(h weevil.House) (bool, api.Errno) { l, e := do(h); return sameHouse(l, weevil.House{}), e }
	}
	return []call{
		{"Weeks", numbers(func(h weevil.House) ([]int, api.Errno) { return weevil.Weeks(h, o.from) })},
		{"Explains", whether(func(h weevil.House) (bool, api.Errno) { return weevil.Explains(h, o.from) })},
		{"Cleared", numbers(weevil.Cleared)},
		{"Origins", numbers(weevil.Origins)},
		{"Apart", numbers(weevil.Apart)},
		{"Surely", numbers(func(h weevil.House) ([]int, api.Errno) { return weevil.Surely(h, o.week) })},
		{"Perhaps", numbers(func(h weevil.House) ([]int, api.Errno) { return weevil.Perhaps(h, o.week) })},
		{"Clash", numbers(weevil.Clash)},
		{"Cut", numbers(func(h weevil.House) ([]int, api.Errno) { return weevil.Cut(h, o.from, o.keep) })},
		{"Shuts", whether(func(h weevil.House) (bool, api.Errno) { return weevil.Shuts(h, o.from, o.keep, o.gaps) })},
		{"Ways", many(func(h weevil.House) ([][]int, api.Errno) { return weevil.Ways(h, o.from, o.keep) })},
		{"Leads", number(func(h weevil.House) (int, api.Errno) { return weevil.Leads(h, o.from, o.keep, o.ways) })},
		{"Save", many(func(h weevil.House) ([][]int, api.Errno) { return weevil.Save(h, o.from, o.keep, o.speed) })},
		{"Fewest", number(func(h weevil.House) (int, api.Errno) { return weevil.Fewest(h, o.from, o.keep, o.speed) })},
		{"Saved", whether(func(h weevil.House) (bool, api.Errno) { return weevil.Saved(h, o.from, o.keep, o.speed, o.plan) })},
		{"Speed", number(func(h weevil.House) (int, api.Errno) { return weevil.Speed(h, o.from, o.keep) })},
		{"See", house(func(h weevil.House) (weevil.House, api.Errno) { return weevil.See(h, o.sight) })},
		{"Close", house(func(h weevil.House) (weevil.House, api.Errno) { return weevil.Close(h, o.gap) })},
	}
}

// strange are arguments that are not allowed, for which each call that takes one has an error of its own.
func strange() others {
	return others{week: 10, speed: 11, gap: 7, from: list(6), keep: list(6), gaps: list(7), ways: lists(list(7)), plan: make([][]int, 10), sight: seen(10, 6)}
}

// allowed are arguments that are allowed for the house of the examples.
func allowed() others {
	return others{week: 2, speed: 1, gap: 6, from: list(0), keep: list(3), gaps: list(2, 3), ways: lists(list(0, 2)), plan: lists(list(2), list(3)), sight: none(1, 1)}
}

// changed returns arguments that are allowed, changed.
func changed(change func(o *others)) others {
	o := allowed()
	change(&o)
	return o
}

func TestErrorsOfHousesComeFirst(t *testing.T) {
	for _, x := range []struct {
		h weevil.House
		e api.Errno
	}{
		{weevil.House{}, api.ErrMany},
		{weevil.House{Bins: math.MaxInt}, api.ErrMany},
		{side(11), api.ErrMany},
		{six(slices.Repeat([]weevil.Sight{seen(10, 9)}, 9)...), api.ErrMany},
		{six(slices.Repeat([]weevil.Sight{seen(10, 9)}, 8)...), api.ErrRange},
		{six(slices.Repeat([]weevil.Sight{seen(9, 9)}, 8)...), api.ErrNot},
		{but(func(h *weevil.House) { h.Gaps[3].A = -1 }), api.ErrNot},
		{but(func(h *weevil.House) { h.Gaps[3].A = 3 }), api.ErrTwice},
	} {
		if e := weevil.Check(x.h); e != x.e {
			t.Error("Check has error", e, "and should have", x.e)
		}
		for _, o := range []others{strange(), allowed(), {}} {
			for _, call := range calls(o) {
				if zero, e := call.do(x.h); e != x.e || !zero {
					t.Error(call.name, "has error", e, "and should have", x.e, "; its result is zero:", zero)
				}
			}
		}
	}
}

// TestErrorsInOrder asks of a house whose sights agree, and of others in which they clash.
func TestErrorsInOrder(t *testing.T) {
	const no, many, out, twice, lost, clash, room = api.ErrNot, api.ErrMany, api.ErrRange, api.ErrTwice, api.ErrNone, api.ErrClash, api.ErrFull
	filled := six(slices.Repeat(clashing().Sights, 3)[:8]...)
	// both are the errors that all functions have that take two lists of bins.
	both := func(e api.Errno, more map[string]api.Errno) map[string]api.Errno {
		want := map[string]api.Errno{"Clash": lost}
		for _, name := range []string{"Cut", "Shuts", "Ways", "Leads", "Save", "Fewest", "Saved", "Speed"} {
			want[name] = e
		}
		for name, f := range more {
			want[name] = f
		}
		return want
	}
	for _, x := range []struct {
		name string
		h    weevil.House
		o    others
		want map[string]api.Errno
	}{
		{"strange", six(seen(1, 1)), strange(), both(no, map[string]api.Errno{"Weeks": no, "Explains": no, "Surely": out, "Perhaps": out, "See": out, "Close": no})},
		{"strange, where sights clash", filled, strange(), both(no, map[string]api.Errno{"Weeks": no, "Explains": no, "Surely": out, "Perhaps": out, "See": room, "Close": no,
			"Origins": clash, "Apart": clash, "Clash": api.OK})},
		{"allowed", six(seen(1, 1)), allowed(), both(api.OK, nil)},
		{"allowed, where sights clash", filled, allowed(), both(api.OK, map[string]api.Errno{"Origins": clash, "Apart": clash, "Surely": clash, "Perhaps": clash, "Clash": api.OK, "See": room})},
		{"nothing", six(seen(1, 1)), others{}, both(api.OK, nil)},
		{"a bin twice in the first list", six(), changed(func(o *others) { o.from, o.keep, o.speed = list(0, 0), list(6), 11 }), both(twice, map[string]api.Errno{"Weeks": twice, "Explains": twice})},
		{"a bin that there is not in the second list", six(), changed(func(o *others) { o.keep, o.speed, o.gaps = list(0, 0, 6), 11, list(7) }), both(no, nil)},
		{"a bin twice in the second list", six(), changed(func(o *others) { o.keep, o.speed, o.ways = list(0, 0), 11, lists(list(7)) }), both(twice, nil)},
		{"a bin in both lists", six(), changed(func(o *others) {
			o.keep, o.speed, o.gaps, o.ways, o.plan = list(3, 0), 11, list(7), lists(list(7)), make([][]int, 10)
		}), both(clash, nil)},
		{"a speed of 11", six(), changed(func(o *others) { o.speed, o.plan = 11, make([][]int, 10) }), both(api.OK, map[string]api.Errno{"Save": out, "Fewest": out, "Saved": out})},
		{"a speed of -1", six(), changed(func(o *others) { o.speed = -1 }), both(api.OK, map[string]api.Errno{"Save": out, "Fewest": out, "Saved": out})},
		{"a speed of 0", six(), changed(func(o *others) { o.speed, o.plan = 0, nil }), both(api.OK, map[string]api.Errno{"Save": lost, "Fewest": lost})},
		{"a plan of ten weeks", six(), changed(func(o *others) { o.plan = slices.Repeat(lists(list(7)), 10) }), both(api.OK, map[string]api.Errno{"Saved": many})},
		{"gaps that there are not", six(), changed(func(o *others) { o.gaps, o.ways, o.plan = list(2, 2, 7), lists(list(2, 2, 7)), lists(list(2, 2, 7)) }), both(api.OK, map[string]api.Errno{"Shuts": no, "Leads": no, "Saved": no})},
		{"gaps twice", six(), changed(func(o *others) { o.gaps, o.ways, o.plan = list(2, 2), lists(list(2, 2)), lists(list(2), list(2)) }), both(api.OK, map[string]api.Errno{"Shuts": twice, "Leads": twice, "Saved": twice})},
	} {
		for _, call := range calls(x.o) {
			zero, e := call.do(x.h)
			if e != x.want[call.name] || e != api.OK && !zero {
				t.Error(x.name, ":", call.name, "has error", e, "and should have", x.want[call.name], "; its result is zero:", zero)
			}
		}
	}
}

// someOthers returns arguments that are allowed for a house, but ways may be none.
func someOthers(r *rand.Rand, h weevil.House) others {
	o := others{week: r.IntN(weevil.MaxWeeks + 1), speed: r.IntN(4), gaps: someList(r, len(h.Gaps), 4)}
	o.from, o.keep = someLists(r, h)
	o.ways, _ = weevil.Ways(h, o.from, o.keep)
	if r.IntN(2) == 0 {
		o.ways = append(o.ways, someList(r, len(h.Gaps), 3))
	}
	o.plan = somePlan(r, h, o.speed)
	o.sight = weevil.Sight{Week: r.IntN(4), Bin: r.IntN(h.Bins), Seen: r.IntN(2) == 0}
	if len(h.Gaps) > 0 {
		o.gap = r.IntN(len(h.Gaps))
	}
	return o
}

// roomFor returns a list with room for more beyond its end.
func roomFor[T any](list []T) []T { return append(make([]T, 0, len(list)+20), list...) }

func roomForLists(all [][]int) [][]int {
	var roomy [][]int
	for _, l := range all {
		roomy = append(roomy, roomFor(l))
	}
	return roomFor(roomy)
}

// roomyHouse returns a house all of whose lists have room for more.
func roomyHouse(h weevil.House) weevil.House {
	return weevil.House{Bins: h.Bins, Gaps: roomFor(h.Gaps), Sights: roomFor(h.Sights)}
}

// roomyOthers returns arguments all of whose lists have room for more.
func roomyOthers(o others) others {
	o.from, o.keep, o.gaps = roomFor(o.from), roomFor(o.keep), roomFor(o.gaps)
	o.ways, o.plan = roomForLists(o.ways), roomForLists(o.plan)
	return o
}

func sameOthers(a, b others) bool {
	return slices.Equal(a.from, b.from) && slices.Equal(a.keep, b.keep) && slices.Equal(a.gaps, b.gaps) && sameLists(a.ways, b.ways) && sameLists(a.plan, b.plan)
}

// isBare says whether a list has nothing beyond its end.
func isBare[T comparable](list []T) bool {
	var none T
	return !slices.ContainsFunc(list[len(list):cap(list)], func(x T) bool { return x != none })
}

func areBare(all [][]int) bool {
	beyond := all[len(all):cap(all)]
	return !slices.ContainsFunc(all, func(l []int) bool { return !isBare(l) }) && !slices.ContainsFunc(beyond, func(l []int) bool { return l != nil })
}

func isBareHouse(h weevil.House) bool { return isBare(h.Gaps) && isBare(h.Sights) }

func areBareOthers(o others) bool {
	return isBare(o.from) && isBare(o.keep) && isBare(o.gaps) && areBare(o.ways) && areBare(o.plan)
}

func TestNothingIsChangedAndNothingIsKept(t *testing.T) {
	tried(t, 100, func(r *rand.Rand, h weevil.House) {
		was, with := copyHouse(h), someOthers(r, h)
		h = roomyHouse(h)
		o := roomyOthers(with)
		with = roomyOthers(with)
		for i, call := range calls(o) {
			zero, e := call.do(h)
			again, f := calls(with)[i].do(was)
			if zero != again || e != f {
				t.Error(call.name, "returns something else when it is asked again:", zero, e, again, f)
			}
			if !sameHouse(h, was) || !sameOthers(o, with) {
				t.Error(call.name, "changes an argument")
			}
		}
		if !isBareHouse(h) || !areBareOthers(o) {
			t.Error("something was written beyond the end of a list")
		}
	})
}

// scrawl writes over all that a list has room for.
func scrawl[T any](list []T, x T) {
	for i := range list[:cap(list)] {
		list[:cap(list)][i] = x
	}
}

// TestResultsAreNotKept asks the same twice, and writes over all that was answered first.
func TestResultsAreNotKept(t *testing.T) {
	h := six(seen(2, 3), none(1, 1))
	clashes := clashing()
	from, keep := list(0), list(3)
	for _, x := range []struct {
		name string
		ask  func() ([]int, api.Errno)
	}{
		{"Weeks", func() ([]int, api.Errno) { return weevil.Weeks(h, from) }},
		{"Cleared", func() ([]int, api.Errno) { return weevil.Cleared(h) }},
		{"Origins", func() ([]int, api.Errno) { return weevil.Origins(h) }},
		{"Apart", func() ([]int, api.Errno) { return weevil.Apart(h) }},
		{"Surely", func() ([]int, api.Errno) { return weevil.Surely(h, 2) }},
		{"Perhaps", func() ([]int, api.Errno) { return weevil.Perhaps(h, 2) }},
		{"Clash", func() ([]int, api.Errno) { return weevil.Clash(clashes) }},
		{"Cut", func() ([]int, api.Errno) { return weevil.Cut(h, from, keep) }},
	} {
		first, _ := x.ask()
		was := slices.Clone(first)
		scrawl(first, -7)
		if again, e := x.ask(); len(was) == 0 || !slices.Equal(again, was) || e != api.OK {
			t.Error(x.name, "returns", again, e, "and returned", was)
		}
	}
	if !sameHouse(h, six(seen(2, 3), none(1, 1))) || !sameHouse(clashes, clashing()) || !slices.Equal(from, list(0)) || !slices.Equal(keep, list(3)) {
		t.Error("a result shares memory with an argument:", h, clashes, from, keep)
	}
}

func TestListsOfListsShareNoMemory(t *testing.T) {
	h := six()
	from, keep := list(0), list(3)
	for _, x := range []struct {
		name string
		ask  func() ([][]int, api.Errno)
	}{
		{"Ways", func() ([][]int, api.Errno) { return weevil.Ways(h, from, keep) }},
		{"Save", func() ([][]int, api.Errno) { return weevil.Save(h, from, keep, 1) }},
	} {
		first, e := x.ask()
		was := copyLists(first)
		if len(first) != 2 || e != api.OK {
			t.Fatal(x.name, "returns", first, e)
		}
		for k, l := range first {
			scrawl(l, -7)
			if !sameLists(first[k+1:], was[k+1:]) {
				t.Error("list", k, "of", x.name, "shares memory with others:", first)
			}
		}
		scrawl(first, nil)
		if again, e := x.ask(); !sameLists(again, was) || e != api.OK {
			t.Error(x.name, "returns", again, e, "and returned", was)
		}
	}
	if !sameHouse(h, six()) || !slices.Equal(from, list(0)) || !slices.Equal(keep, list(3)) {
		t.Error("a result shares memory with an argument:", h, from, keep)
	}
}

func TestHousesShareNoMemory(t *testing.T) {
	h := roomyHouse(clashing())
	for _, ask := range []func() (weevil.House, api.Errno){
		func() (weevil.House, api.Errno) { return weevil.See(h, seen(1, 1)) },
		func() (weevil.House, api.Errno) { return weevil.Close(h, 0) },
		func() (weevil.House, api.Errno) { return weevil.Close(h, 3) },
		func() (weevil.House, api.Errno) { return weevil.Close(h, 6) },
	} {
		other, e := ask()
		if e != api.OK {
			t.Fatal("there is error", e)
		}
		scrawl(other.Gaps, gap(-7, -7))
		scrawl(other.Sights, seen(-7, -7))
		if !sameHouse(h, clashing()) || !isBareHouse(h) {
			t.Error("a house shares memory with the one that it came from:", h)
		}
	}
}

func TestNilListsAreAsEmptyOnes(t *testing.T) {
	nothing := weevil.House{Bins: 5}
	empty := weevil.House{Bins: 5, Gaps: gaps(), Sights: []weevil.Sight{}}
	void := others{from: list(), keep: list(), gaps: list(), ways: lists(), plan: lists()}
	for _, x := range [][2]weevil.House{{nothing, empty}, {{}, {Gaps: gaps(), Sights: []weevil.Sight{}}}, {six(), six()}, {clashing(), clashing()}} {
		for i, call := range calls(others{}) {
			zero, e := call.do(x[0])
			again, f := calls(void)[i].do(x[1])
			if zero != again || e != f {
				t.Error(call.name, "returns another result for empty lists:", zero, e, again, f)
			}
		}
	}
	if e := weevil.Check(empty); e != api.OK {
		t.Error("a house without gaps has error", e)
	}
	for _, plan := range [][][]int{lists(nil, list(2), list(3)), lists(list(), list(2), list(3))} {
		if is, e := weevil.Saved(six(), list(0), list(4), 1, plan); is || e != api.OK {
			t.Error("a plan saves:", plan, is, e)
		}
	}
}

// TestAnyNumbers calls everything with numbers that are seldom allowed.
func TestAnyNumbers(t *testing.T) {
	r := rand.New(rand.NewPCG(41, 43))
	some := func(most int) int {
		all := []int{math.MinInt, math.MinInt + 1, -2, -1, 5, 6, 7, 8, 9, 10, 11, math.MaxInt - 1, math.MaxInt}
		if r.IntN(40) > 0 {
			return r.IntN(most)
		}
		return all[r.IntN(len(all))]
	}
	someOf := func(n, most int) []int {
		var l []int
		for range r.IntN(n + 1) {
			l = append(l, some(most))
		}
		return l
	}
	fine := 0
	for range 10000 {
		h := weevil.House{Bins: 2 + some(5)}
		for range r.IntN(6) {
			a := some(3)
			h.Gaps = append(h.Gaps, gap(a, (a+1+r.IntN(2))%4))
		}
		for range r.IntN(4) {
			h.Sights = append(h.Sights, weevil.Sight{Week: some(4), Bin: some(3), Seen: r.IntN(2) == 0})
		}
		o := others{week: some(10), speed: some(4), gap: some(4), from: someOf(2, 3), keep: someOf(2, 4), gaps: someOf(3, 4), sight: seen(some(9), some(4))}
		for range r.IntN(4) {
			o.ways = append(o.ways, someOf(3, 5))
			o.plan = append(o.plan, someOf(2, 5))
		}
		for _, call := range calls(o) {
			if zero, e := call.do(h); e != api.OK && !zero {
				t.Error(call.name, "has a result beside error", e)
			}
		}
		if weevil.Check(h) == api.OK {
			fine++
		}
	}
	if fine < 1000 || fine > 9000 {
		t.Error(fine, "houses are allowed")
	}
}

func TestLongLists(t *testing.T) {
	long := make([]int, 1<<20)
	many := slices.Repeat(lists(list(0, 2)), 1<<20)
	if l, e := weevil.Weeks(six(), long); len(l) != 0 || e != api.ErrTwice {
		t.Error("a long list of bins gives", l, e)
	}
	if l, e := weevil.Cut(six(), nil, long); len(l) != 0 || e != api.ErrTwice {
		t.Error("a long list of bins to be kept gives", l, e)
	}
	if is, e := weevil.Shuts(six(), list(0), list(3), long); is || e != api.ErrTwice {
		t.Error("a long list of gaps gives", is, e)
	}
	if n, e := weevil.Leads(six(), list(0), list(3), many); n != 0 || e != api.ErrTwice {
		t.Error("many ways lead by", n, e)
	}
	if n, e := weevil.Leads(six(), list(0), list(3), lists(long)); n != 0 || e != api.ErrTwice {
		t.Error("a long way leads by", n, e)
	}
	if n, e := weevil.Leads(six(), list(0), list(3), make([][]int, 1<<20)); n != 0 || e != api.ErrWrong {
		t.Error("many ways without gaps lead by", n, e)
	}
	if is, e := weevil.Saved(six(), list(0), list(3), 1, many); is || e != api.ErrMany {
		t.Error("a long plan gives", is, e)
	}
	if is, e := weevil.Saved(six(), list(0), list(3), 1, lists(long)); is || e != api.ErrOrder {
		t.Error("a long week gives", is, e)
	}
}
