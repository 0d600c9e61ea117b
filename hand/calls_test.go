package hand_test

import (
	"math"
	"math/rand/v2"
	"slices"
	"strconv"
	"testing"

	"staddle/api"
	"staddle/hand"
)

// asked is what is asked of a watch.
type asked struct {
	s      hand.Stretch
	k, who int
	some   []int
	l      []hand.Stretch
	c      hand.Count
}

// call is a function that takes a watch, and returns its result as a text, which is empty for a result that is zero.
type call struct {
	name string
	do   func(w hand.Watch) (string, api.Errno)
}

func textOf(n ...int) string {
	text, zero := "", true
	for _, k := range n {
		text += strconv.Itoa(k) + " "
		zero = zero && k == 0
	}
	if zero && len(n) < 3 {
		return ""
	}
	return text
}

func textOfParts(l []hand.Stretch) string {
	text := ""
	for _, s := range l {
		text += strconv.Itoa(s.From) + "-" + strconv.Itoa(s.To) + " "
	}
	return text
}

func textOfList(l []int) string {
	text := ""
	for _, k := range l {
		text += "#" + strconv.Itoa(k)
	}
	return text
}

func textOfWatch(w hand.Watch) string {
	if sameWatch(w, hand.Watch{}) {
		return ""
	}
	text := textOf(w.Hours, w.Allow, w.Hands)
	for _, c := range w.Counts {
		text += textOf(c.Hour, c.Sacks.Lo, c.Sacks.Hi)
	}
	for _, b := range w.Bookings {
		text += textOf(b.Hour, b.Sacks)
	}
	for _, s := range w.Spells {
		text += textOf(s.Hand, s.From, s.To)
	}
	return text
}

// calls are all functions that take a watch but Check.
func calls(o asked) []call {
	number := func(n int, e api.Errno) (string, api.Errno) { return textOf(n), e }
	numbers := func(l []int, e api.Errno) (string, api.Errno) { return textOfList(l), e }
	some := func(l []hand.Stretch, e api.Errno) (string, api.Errno) { return textOfParts(l), e }
	return []call{
		{"Booked", func(w hand.Watch) (string, api.Errno) { return number(hand.Booked(w, o.s)) }},
		{"Gap", func(w hand.Watch) (string, api.Errno) { return number(hand.Gap(w, o.s)) }},
		{"There", func(w hand.Watch) (string, api.Errno) { return numbers(hand.There(w, o.s)) }},
		{"Short", func(w hand.Watch) (string, api.Errno) { return some(hand.Short(w)) }},
		{"Smallest", func(w hand.Watch) (string, api.Errno) { return some(hand.Smallest(w)) }},
		{"Clashes", func(w hand.Watch) (string, api.Errno) {
			s, e := hand.Clashes(w)
			return textOf(s.From, s.To), e
		}},
		{"Within", func(w hand.Watch) (string, api.Errno) {
			s, e := hand.Within(w, o.k)
			return textOf(s.Lo, s.Hi), e
		}},
		{"Explains", func(w hand.Watch) (string, api.Errno) {
			is, e := hand.Explains(w, o.some)
			if is {
				return "yes", e
			}
			return "", e
		}},
		{"Left", func(w hand.Watch) (string, api.Errno) { return some(hand.Left(w, o.some)) }},
		{"Fewest", func(w hand.Watch) (string, api.Errno) { return numbers(hand.Fewest(w)) }},
		{"Apart", func(w hand.Watch) (string, api.Errno) { return some(hand.Apart(w)) }},
		{"Must", func(w hand.Watch) (string, api.Errno) { return numbers(hand.Must(w)) }},
		{"Can", func(w hand.Watch) (string, api.Errno) { return numbers(hand.Can(w)) }},
		{"Least", func(w hand.Watch) (string, api.Errno) { return number(hand.Least(w, o.who)) }},
		{"Proof", func(w hand.Watch) (string, api.Errno) { return some(hand.Proof(w, o.who)) }},
		{"Proves", func(w hand.Watch) (string, api.Errno) { return number(hand.Proves(w, o.who, o.l)) }},
		{"Missing", func(w hand.Watch) (string, api.Errno) { return number(hand.Missing(w)) }},
		{"Add", func(w hand.Watch) (string, api.Errno) {
			more, e := hand.Add(w, o.c)
			return textOfWatch(more), e
		}},
	}
}

// strange are arguments that are not allowed, for which each call that takes one has an error of its own.
func strange() asked {
	return asked{s: part(9, 9), k: 9, who: 9, some: list(9, 9), l: parts(part(9, 9)), c: count(99, 999, 99)}
}

// allowed are arguments that are allowed for the watches of the examples.
func allowed() asked {
	return asked{s: part(0, 2), k: 1, who: 2, some: list(2, 0), c: count(21, 60, 61)}
}

// changed returns arguments that are allowed, changed.
func changed(change func(o *asked)) asked {
	o := allowed()
	change(&o)
	return o
}

func TestErrorsOfWatchesComeFirst(t *testing.T) {
	for _, x := range []struct {
		w hand.Watch
		e api.Errno
	}{
		{hand.Watch{}, api.ErrMany},
		{but(handsOf(7)), api.ErrMany},
		{but(countsOf(9)), api.ErrMany},
		{but(hoursOf(0)), api.ErrRange},
		{but(countIs(0, 0, 5, 501)), api.ErrRange},
		{but(spellIs(0, 3, 1, 2)), api.ErrNot},
		{but(countIs(1, 0, 5, 5)), api.ErrOrder},
		{but(spellIs(0, 0, 2, 2)), api.ErrOrder},
	} {
		if e := hand.Check(x.w); e != x.e {
			t.Error("Check has error", e, "and should have", x.e)
		}
		for _, o := range []asked{strange(), allowed(), {}} {
			for _, call := range calls(o) {
				if text, e := call.do(x.w); e != x.e || text != "" {
					t.Error(call.name, "has error", e, "and should have", x.e, "; its result is", text)
				}
			}
		}
	}
}

// TestErrorsInOrder asks of a watch in which there is a truth, and of others that clash.
func TestErrorsInOrder(t *testing.T) {
	const no, out, order, twice, lost, clash, wrong, room = api.ErrNot, api.ErrRange, api.ErrOrder, api.ErrTwice, api.ErrNone, api.ErrClash, api.ErrWrong, api.ErrFull
	type errors map[string]api.Errno
	filled := but(countsOf(8))
	filled.Counts[7].Sacks = span(6, 6)
	// and are the errors of others with some more.
	and := func(all, more errors) errors {
		both := errors{}
		for _, some := range []errors{all, more} {
			for name, e := range some {
				both[name] = e
			}
		}
		return both
	}
	agreed := errors{"Clashes": lost}
	clashes := errors{"Within": clash, "Explains": clash, "Fewest": clash, "Must": clash, "Can": clash, "Least": clash, "Proof": clash, "Missing": clash}
	odd := errors{"Booked": no, "Gap": no, "There": no, "Within": no, "Explains": no, "Left": no, "Least": no, "Proof": no, "Proves": no, "Add": out}
	for _, x := range []struct {
		name string
		w    hand.Watch
		o    asked
		want errors
	}{
		{"allowed", shared(14), allowed(), agreed},
		{"allowed, where counts clash", late(), changed(func(o *asked) { o.c.Hour = 23 }), clashes},
		{"strange", shared(14), strange(), and(agreed, odd)},
		{"strange, where counts clash", late(), strange(), and(clashes, odd)},
		{"strange, with eight counts that clash", filled, strange(), and(and(clashes, odd), errors{"Add": room})},
		{"a stretch back", late(), changed(func(o *asked) { o.s, o.l, o.c.Hour = part(2, 0), parts(part(2, 0), part(0, 9)), 23 }), and(clashes, errors{"Booked": order, "Gap": order, "There": order, "Proves": order})},
		{"a stretch that others are in", shared(14), changed(func(o *asked) { o.l = parts(part(0, 2), part(9, 9)) }), and(agreed, errors{"Proves": wrong})},
		{"a hand twice", shared(14), changed(func(o *asked) { o.some, o.l = list(1, 1), parts(part(2, 3), part(2, 3)) }), and(agreed, errors{"Explains": twice, "Left": twice, "Proves": wrong})},
		{"a hand twice, where counts clash", four(), changed(func(o *asked) { o.some = list(1, 1) }), and(clashes, errors{"Explains": twice, "Left": twice})},
		{"a stretch twice", shared(12), changed(func(o *asked) { o.l = parts(part(2, 3), part(2, 3)) }), and(agreed, errors{"Proves": twice})},
		{"a count at an hour of another one", shared(14), changed(func(o *asked) { o.c = count(20, 999, 9) }), and(agreed, errors{"Add": twice})},
		{"a count of 61 to 60", shared(14), changed(func(o *asked) { o.c = count(21, 61, 60) }), and(agreed, errors{"Add": order})},
	} {
		for _, call := range calls(x.o) {
			text, e := call.do(x.w)
			if e != x.want[call.name] || e != api.OK && text != "" {
				t.Error(x.name, ":", call.name, "has error", e, "and should have", x.want[call.name], "; its result is", text)
			}
		}
	}
}

// roomFor returns a list with room for more beyond its end.
func roomFor[T any](list []T) []T { return append(make([]T, 0, len(list)+20), list...) }

// isBare says whether a list has nothing beyond its end.
func isBare[T comparable](list []T) bool {
	var none T
	return !slices.ContainsFunc(list[len(list):cap(list)], func(x T) bool { return x != none })
}

func roomyWatch(w hand.Watch) hand.Watch {
	w.Counts, w.Bookings, w.Spells = roomFor(w.Counts), roomFor(w.Bookings), roomFor(w.Spells)
	return w
}

func isBareWatch(w hand.Watch) bool {
	return isBare(w.Counts) && isBare(w.Bookings) && isBare(w.Spells)
}

// someAsked returns arguments for a watch, most of which are allowed.
func someAsked(r *rand.Rand, w hand.Watch) asked {
	o := asked{s: part(r.IntN(len(w.Counts)), r.IntN(len(w.Counts))), k: r.IntN(len(w.Counts)), who: r.IntN(w.Hands), some: someHands(r, w)}
	o.l, _ = hand.Proof(w, o.who)
	o.c = count(r.IntN(w.Hours+1), r.IntN(200), 200+r.IntN(200))
	return o
}

func TestNothingIsChangedAndNothingIsKept(t *testing.T) {
	triedAny(t, 60, func(r *rand.Rand, w hand.Watch) {
		was, first := copyWatch(w), someAsked(r, w)
		w = roomyWatch(w)
		o := first
		o.some, o.l = roomFor(first.some), roomFor(first.l)
		for i, call := range calls(o) {
			text, e := call.do(w)
			again, f := calls(first)[i].do(was)
			if text != again || e != f {
				t.Error(call.name, "returns something else when it is asked again:", text, e, again, f)
			}
			if !sameWatch(w, was) || !slices.Equal(o.some, first.some) || !slices.Equal(o.l, first.l) {
				t.Error(call.name, "changes an argument")
			}
		}
		if !isBareWatch(w) || !isBare(o.some) || !isBare(o.l) {
			t.Error("something was written beyond the end of a list")
		}
	})
}

// scrawl writes over all that a list has room for.
func scrawl[T any](list []T, x T) {
	for i := range list[:cap(list)] {
		list[:cap(list)][i] = x
	}
}

// TestResultsAreNotKept asks the same twice, and writes over all that was answered first.
func TestResultsAreNotKept(t *testing.T) {
	w, some := shared(12), list(1)
	for _, x := range []struct {
		name string
		ask  func() ([]int, api.Errno)
	}{
		{"There", func() ([]int, api.Errno) { return hand.There(w, part(0, 3)) }},
		{"Fewest", func() ([]int, api.Errno) { return hand.Fewest(w) }},
		{"Must", func() ([]int, api.Errno) { return hand.Must(w) }},
		{"Can", func() ([]int, api.Errno) { return hand.Can(w) }},
	} {
		first, _ := x.ask()
		was := slices.Clone(first)
		scrawl(first, -7)
		if again, e := x.ask(); len(was) == 0 || !slices.Equal(again, was) || e != api.OK {
			t.Error(x.name, "returns", again, e, "and returned", was)
		}
	}
	for _, x := range []struct {
		name string
		ask  func() ([]hand.Stretch, api.Errno)
	}{
		{"Short", func() ([]hand.Stretch, api.Errno) { return hand.Short(w) }},
		{"Smallest", func() ([]hand.Stretch, api.Errno) { return hand.Smallest(w) }},
		{"Left", func() ([]hand.Stretch, api.Errno) { return hand.Left(w, some) }},
		{"Apart", func() ([]hand.Stretch, api.Errno) { return hand.Apart(w) }},
		{"Proof", func() ([]hand.Stretch, api.Errno) { return hand.Proof(w, 2) }},
	} {
		first, _ := x.ask()
		was := slices.Clone(first)
		scrawl(first, part(-7, -7))
		if again, e := x.ask(); len(was) == 0 || !slices.Equal(again, was) || e != api.OK {
			t.Error(x.name, "returns", again, e, "and returned", was)
		}
	}
	if !sameWatch(w, shared(12)) || !slices.Equal(some, list(1)) {
		t.Error("a result shares memory with an argument:", w, some)
	}
}

func TestWatchesShareNoMemory(t *testing.T) {
	w := roomyWatch(shared(14))
	for _, c := range []hand.Count{count(24, 1, 2), count(7, 1, 2), count(1, 1, 2)} {
		more, e := hand.Add(w, c)
		if e != api.OK {
			t.Fatal("there is error", e)
		}
		scrawl(more.Counts, count(-7, -7, -7))
		scrawl(more.Bookings, booking(-7, -7))
		scrawl(more.Spells, spell(-7, -7, -7))
		if !sameWatch(w, shared(14)) || !isBareWatch(w) {
			t.Error("a watch shares memory with the one that it came from:", w)
		}
	}
}

func TestNilListsAreAsEmptyOnes(t *testing.T) {
	bare := but(func(w *hand.Watch) { w.Bookings, w.Spells = nil, nil })
	empty := but(func(w *hand.Watch) { w.Bookings, w.Spells = []hand.Booking{}, []hand.Spell{} })
	void := asked{some: list(), l: parts()}
	hollow := hand.Watch{Counts: []hand.Count{}, Bookings: []hand.Booking{}, Spells: []hand.Spell{}}
	for _, x := range [][2]hand.Watch{{bare, empty}, {{}, hollow}, {shared(14), shared(14)}, {late(), late()}} {
		for i, call := range calls(asked{}) {
			text, e := call.do(x[0])
			again, f := calls(void)[i].do(x[1])
			if text != again || e != f {
				t.Error(call.name, "returns another result for empty lists:", text, e, again, f)
			}
		}
	}
	if e := hand.Check(empty); e != api.OK {
		t.Error("a watch without bookings and spells has error", e)
	}
}

// TestAnyNumbers calls everything with numbers that are seldom allowed.
func TestAnyNumbers(t *testing.T) {
	r := rand.New(rand.NewPCG(61, 67))
	some := func(from, to int) int {
		all := []int{math.MinInt, math.MinInt + 1, -501, -201, -2, -1, 0, 7, 9, 21, 61, 201, 501, math.MaxInt - 1, math.MaxInt}
		if r.IntN(80) > 0 {
			return from + r.IntN(to-from+1)
		}
		return all[r.IntN(len(all))]
	}
	fine := 0
	for range 10000 {
		w := hand.Watch{Hours: some(30, 60), Allow: some(0, 20), Hands: some(3, 6)}
		for k := range r.IntN(5) {
			w.Counts = append(w.Counts, count(some(7*k, 7*k+6), some(0, 200), some(200, 500)))
		}
		for range r.IntN(3) {
			w.Bookings = append(w.Bookings, booking(some(0, 30), some(1, 200)))
		}
		for range r.IntN(4) {
			w.Spells = append(w.Spells, spell(some(0, 2), some(0, 10), some(11, 30)))
		}
		o := asked{s: part(some(0, 2), some(1, 4)), k: some(0, 4), who: some(0, 3), c: count(some(0, 40), some(0, 200), some(200, 500))}
		for range r.IntN(4) {
			o.some = append(o.some, some(0, 3))
			o.l = append(o.l, part(some(0, 2), some(1, 4)))
		}
		for _, call := range calls(o) {
			if text, e := call.do(w); e != api.OK && text != "" {
				t.Error(call.name, "has a result beside error", e)
			}
		}
		if hand.Check(w) == api.OK {
			fine++
		}
	}
	if fine < 1000 || fine > 9000 {
		t.Error(fine, "watches are allowed")
	}
}

// TestAllThatIsAllowed calls everything with as much of each kind as there can be.
func TestAllThatIsAllowed(t *testing.T) {
	tight := full()
	tight.Allow, tight.Bookings = 0, nil
	wide := full()
	wide.Allow = 1
	for k := range wide.Counts {
		wide.Counts[k].Sacks = span(0, 500)
	}
	apart := full()
	apart.Allow, apart.Bookings, apart.Spells = 0, nil, nil
	for k := range 12 {
		apart.Spells = append(apart.Spells, spell(k%6, 5*k, 5*k+1))
	}
	for _, w := range []hand.Watch{full(), tight, wide, apart} {
		if e := hand.Check(w); e != api.OK {
			t.Fatal(w, "has error", e)
		}
		for who := range 6 {
			for _, call := range calls(asked{s: part(0, 7), k: 7, who: who, some: list(5, 4, 3, 2, 1, 0)}) {
				if _, e := call.do(w); e != api.OK && e != api.ErrClash && e != api.ErrNone && e != api.ErrFull {
					t.Error(call.name, "has error", e)
				}
			}
		}
	}
}

func TestLongLists(t *testing.T) {
	long := make([]int, 1<<20)
	if is, e := hand.Explains(shared(14), long); is || e != api.ErrTwice {
		t.Error("a long list of hands gives", is, e)
	}
	if l, e := hand.Left(shared(14), append(long, 3)); len(l) > 0 || e != api.ErrNot {
		t.Error("a long list of hands with one that there is not gives", l, e)
	}
	many := slices.Repeat(parts(part(0, 3)), 1<<16)
	if n, e := hand.Proves(own(), 2, many); n != 0 || e != api.ErrTwice {
		t.Error("many stretches prove", n, e)
	}
	if n, e := hand.Proves(own(), 2, append(many, part(0, 4))); n != 0 || e != api.ErrNot {
		t.Error("many stretches with one that there is not prove", n, e)
	}
	if n, e := hand.Proves(four(), 2, many); n != 17<<16 || e != api.OK {
		t.Error("many stretches in which nobody is prove", n, e)
	}
	for _, w := range []hand.Watch{
		but(func(w *hand.Watch) { w.Counts = make([]hand.Count, 1<<20) }),
		but(func(w *hand.Watch) { w.Bookings = make([]hand.Booking, 1<<20) }),
		but(func(w *hand.Watch) { w.Spells = make([]hand.Spell, 1<<20) }),
	} {
		if e := hand.Check(w); e != api.ErrMany {
			t.Error("a long watch has error", e)
		}
	}
}
