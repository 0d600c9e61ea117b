package loan_test

import (
	"math"
	"math/rand/v2"
	"slices"
	"testing"

	"staddle/api"
	"staddle/loan"
)

// others are arguments beside a ledger, or beside debts.
type others struct {
	which, payment, who, year int
	x                         loan.Loan
	p                         loan.Payment
	circle                    []int
	settlement                []loan.Promise
	groups                    [][]int
}

// call is a function with its other arguments as they are given, and says whether its result is zero.
type call[T any] struct {
	name string
	do   func(of T) (zero bool, e api.Errno)
}

// calls are all functions that take a ledger but Check.
func calls(o others) []call[loan.Ledger] {
	type ledger = loan.Ledger
	number := func(do func(l ledger) (int, api.Errno)) func(l ledger) (bool, api.Errno) {
		return func(l ledger) (bool, api.Errno) { n, e := do(l); return n == 0, e }
	}
	whole := func(do func(l ledger) (ledger, api.Errno)) func(l ledger) (bool, api.Errno) {
		return func(l ledger) (bool, api.Errno) { more, e := do(l); return sameLedger(more, ledger{}), e }
	}
	return []call[ledger]{
		{"Asked", number(func(l ledger) (int, api.Errno) { return loan.Asked(l, o.which) })},
		{"Due", number(func(l ledger) (int, api.Errno) { return loan.Due(l, o.which) })},
		{"Booked", func(l ledger) (bool, api.Errno) {
			list, over, e := loan.Booked(l, o.payment)
			return len(list) == 0 && over == 0, e
		}},
		{"Left", number(func(l ledger) (int, api.Errno) { return loan.Left(l, o.which, o.year) })},
		{"Paid", number(func(l ledger) (int, api.Errno) { return loan.Paid(l, o.which) })},
		{"Owes", number(func(l ledger) (int, api.Errno) { return loan.Owes(l, o.who, o.year) })},
		{"Overdue", number(func(l ledger) (int, api.Errno) { return loan.Overdue(l, o.who, o.year) })},
		{"Lend", whole(func(l ledger) (ledger, api.Errno) { return loan.Lend(l, o.x) })},
		{"Pay", whole(func(l ledger) (ledger, api.Errno) { return loan.Pay(l, o.p) })},
		{"Forgive", whole(func(l ledger) (ledger, api.Errno) { return loan.Forgive(l, o.which) })},
		{"Owed", func(l ledger) (bool, api.Errno) { d, e := loan.Owed(l); return len(d) == 0, e }},
	}
}

// debtCalls are all functions that take debts but CheckDebts.
func debtCalls(o others) []call[loan.Debts] {
	type debts = loan.Debts
	table := func(do func(d debts) (debts, api.Errno)) func(d debts) (bool, api.Errno) {
		return func(d debts) (bool, api.Errno) { less, e := do(d); return len(less) == 0, e }
	}
	numbers := func(do func(d debts) ([]int, api.Errno)) func(d debts) (bool, api.Errno) {
		return func(d debts) (bool, api.Errno) { list, e := do(d); return len(list) == 0, e }
	}
	return []call[debts]{
		{"Net", numbers(loan.Net)},
		{"Circle", numbers(loan.Circle)},
		{"Cancel", table(func(d debts) (debts, api.Errno) { return loan.Cancel(d, o.circle) })},
		{"Straight", table(loan.Straight)},
		{"Settle", func(d debts) (bool, api.Errno) { list, e := loan.Settle(d); return len(list) == 0, e }},
		{"Settles", func(d debts) (bool, api.Errno) { is, e := loan.Settles(d, o.settlement); return !is, e }},
		{"Fewest", func(d debts) (bool, api.Errno) { n, e := loan.Fewest(d); return n == 0, e }},
		{"Groups", func(d debts) (bool, api.Errno) { groups, e := loan.Groups(d); return len(groups) == 0, e }},
		{"Shows", func(d debts) (bool, api.Errno) { n, e := loan.Shows(d, o.groups); return n == 0, e }},
	}
}

// strange are arguments that are not allowed, for which each call that takes one has an error of its own.
func strange() others {
	return others{which: 99, payment: 99, who: -1, year: -1, x: lent(9, 9, 9999), p: paid(9, 9, 9999), settlement: promises(owes(9, 9, 0)), groups: lists(list(9))}
}

// allowed are arguments that are allowed for the ledger of the chapter's examples, and for its debts.
func allowed() others {
	return others{who: 1, x: lent(3, 2, 5), p: paid(3, 2, 5), circle: list(0, 3, 2, 1), settlement: promises(owes(2, 0, 4), owes(2, 3, 2)), groups: lists(list(0, 2, 3))}
}

// changed returns arguments that are allowed, changed.
func changed(change func(o *others)) others {
	o := allowed()
	change(&o)
	return o
}

type errors = map[string]api.Errno

// askAll says which calls have another error than they should have, or none and another result than zero.
func askAll[T any](t *testing.T, name string, of T, calls []call[T], want func(call string) api.Errno) {
	t.Helper()
	for _, call := range calls {
		zero, e := call.do(of)
		if e != want(call.name) || e != api.OK && !zero {
			t.Error(name, ":", call.name, "has error", e, "and should have", want(call.name), "; its result is zero:", zero)
		}
	}
}

func TestErrorsOfLedgersAndDebtsComeFirst(t *testing.T) {
	for _, o := range []others{strange(), allowed(), {}} {
		for _, x := range []struct {
			l loan.Ledger
			e api.Errno
		}{
			{loan.Ledger{}, api.ErrMany}, {but(func(l *loan.Ledger) { l.Loans[0].Bushels = 0 }), api.ErrRange}, {but(func(l *loan.Ledger) { l.Folk = 3 }), api.ErrNot}, {but(func(l *loan.Ledger) { l.Promises[0].To = 2 }), api.ErrTwice}, {forgiven(2, 1), api.ErrOrder},
			{but(func(l *loan.Ledger) { *l = full(); l.Bad = list(2, 1) }), api.ErrOrder},
		} {
			askAll(t, "a ledger", x.l, calls(o), func(string) api.Errno { return x.e })
		}
		for _, x := range []struct {
			d loan.Debts
			e api.Errno
		}{
			{nil, api.ErrMany}, {nothing(8), api.ErrMany}, {loan.Debts{list(0, 1)}, api.ErrMany}, {loan.Debts{list(0, -1), list(0, 0)}, api.ErrRange}, {loan.Debts{list(0, 0), list(0, 5)}, api.ErrTwice},
		} {
			askAll(t, "debts", x.d, debtCalls(o), func(string) api.Errno { return x.e })
		}
	}
}

func TestErrorsInOrder(t *testing.T) {
	const no, many, out, twice, none, wrong, fullUp = api.ErrNot, api.ErrMany, api.ErrRange, api.ErrTwice, api.ErrNone, api.ErrWrong, api.ErrFull
	for _, x := range []struct {
		name string
		l    loan.Ledger
		o    others
		want errors
	}{
		{"allowed", seed(), allowed(), nil},
		{"strange", seed(), strange(), errors{"Asked": no, "Due": no, "Booked": no, "Left": no, "Paid": no, "Owes": no, "Overdue": no, "Lend": out, "Pay": out, "Forgive": no}},
		{"strange, and full", full(), strange(), errors{"Asked": no, "Due": no, "Booked": no, "Left": no, "Paid": no, "Owes": no, "Overdue": no, "Lend": fullUp, "Pay": fullUp, "Forgive": no}},
		{"a loan that is not paid", seed(), changed(func(o *others) { o.which = 1 }), errors{"Paid": none}},
		{"a loan that is forgiven", forgiven(0), allowed(), errors{"Forgive": twice}},
		{"no such year", seed(), changed(func(o *others) { o.year = 3 }), errors{"Left": no, "Owes": no, "Overdue": no}},
		{"nobody", seed(), changed(func(o *others) { o.who = 4 }), errors{"Owes": no, "Overdue": no}},
		{"no loans", loan.Ledger{Folk: 1, Years: 1}, others{}, errors{"Asked": no, "Due": no, "Booked": no, "Left": no, "Paid": no, "Forgive": no, "Lend": out, "Pay": out}},
	} {
		askAll(t, x.name, x.l, calls(x.o), func(call string) api.Errno { return x.want[call] })
	}
	for _, x := range []struct {
		name string
		d    loan.Debts
		o    others
		want errors
	}{
		{"allowed", round(), allowed(), nil},
		{"strange", round(), strange(), errors{"Cancel": many, "Settles": no, "Shows": no}},
		{"strange, and without circles", nothing(2), strange(), errors{"Circle": none, "Cancel": many, "Settles": no, "Shows": no}},
		{"nothing", nothing(1), others{}, errors{"Circle": none, "Cancel": many}},
		{"people that are not there before the same twice", round(), changed(func(o *others) {
			o.circle, o.settlement, o.groups = list(1, 1, 4), promises(owes(1, 1, 0), owes(1, 4, 1)), lists(list(1, 1), list(4))
		}), errors{"Cancel": no, "Settles": no, "Shows": no}},
		{"the same twice before what is wrong", round(), changed(func(o *others) {
			o.circle, o.settlement, o.groups = list(0, 1, 1), promises(owes(1, 2, 0), owes(1, 1, 1)), lists(list(0, 1), list(2, 2))
		}), errors{"Cancel": twice, "Settles": twice, "Shows": api.ErrOrder}},
		{"what is wrong", round(), changed(func(o *others) {
			o.circle, o.settlement, o.groups = list(0, 1), promises(owes(1, 2, 0)), lists(list(0, 1))
		}), errors{"Cancel": wrong, "Settles": out, "Shows": wrong}},
	} {
		askAll(t, x.name, x.d, debtCalls(x.o), func(call string) api.Errno { return x.want[call] })
	}
}

// someOthers returns arguments that are allowed but for some.
func someOthers(r *rand.Rand, d loan.Debts) others {
	o := others{which: r.IntN(8), payment: r.IntN(8), who: r.IntN(len(d)), year: r.IntN(4), x: lent(r.IntN(3), r.IntN(3), r.IntN(500)), p: paid(r.IntN(3), r.IntN(9), r.IntN(500))}
	o.circle, o.settlement, o.groups = someRing(r, d), somePromises(r, d), someGroups(r, d)
	return o
}

func copyOthers(o others) others {
	o.circle, o.settlement, o.groups = slices.Clone(o.circle), slices.Clone(o.settlement), copyLists(o.groups)
	return o
}

func sameOthers(a, b others) bool {
	same := slices.Equal(a.circle, b.circle) && slices.Equal(a.settlement, b.settlement) && sameLists(a.groups, b.groups)
	return same && a.which == b.which && a.payment == b.payment && a.who == b.who && a.year == b.year && a.x == b.x && a.p == b.p
}

// roomFor returns a list with room for more beyond its end.
func roomFor[T any](l []T) []T { return append(make([]T, 0, len(l)+20), l...) }

// roomForAll returns lists with room for more beyond their ends.
func roomForAll(all [][]int) [][]int {
	more := roomFor(all)
	for k := range all {
		more[k] = roomFor(all[k])
	}
	return more
}

// roomIn returns a ledger whose lists have room for more.
func roomIn(l loan.Ledger) loan.Ledger {
	l.Bad, l.Forgiven, l.Loans, l.Payments, l.Promises = roomFor(l.Bad), roomFor(l.Forgiven), roomFor(l.Loans), roomFor(l.Payments), roomFor(l.Promises)
	return l
}

// isBare says whether a list has nothing beyond its end.
func isBare[T comparable](l []T) bool {
	var zero T
	return !slices.ContainsFunc(l[len(l):cap(l)], func(x T) bool { return x != zero })
}

// areBare says whether lists have nothing beyond their ends.
func areBare(all [][]int) bool {
	bare := func(l []int) bool { return l == nil }
	return !slices.ContainsFunc(all, func(l []int) bool { return !isBare(l) }) && !slices.ContainsFunc(all[len(all):cap(all)], func(l []int) bool { return !bare(l) })
}

// isBareLedger says whether the lists of a ledger have nothing beyond their ends.
func isBareLedger(l loan.Ledger) bool {
	return isBare(l.Bad) && isBare(l.Forgiven) && isBare(l.Loans) && isBare(l.Payments) && isBare(l.Promises)
}

func TestNothingIsChangedAndNothingIsKept(t *testing.T) {
	trials(t, 50, func(r *rand.Rand, l loan.Ledger) {
		l0 := copyLedger(l)
		l = roomIn(l)
		for _, call := range calls(someOthers(r, nothing(l.Folk))) {
			zero, e := call.do(l)
			again, f := call.do(l0)
			if zero != again || e != f {
				t.Error(call.name, "returns something else when it is asked again:", zero, e, again, f)
			}
			if !sameLedger(l, l0) || !isBareLedger(l) {
				t.Error(call.name, "changes a ledger")
			}
		}
	})
	debtTrials(t, 50, func(r *rand.Rand, d loan.Debts) {
		o := someOthers(r, d)
		o0, d0 := copyOthers(o), loan.Debts(copyLists(d))
		d = roomForAll(d)
		o.circle, o.settlement, o.groups = roomFor(o.circle), roomFor(o.settlement), roomForAll(o.groups)
		for _, call := range debtCalls(o) {
			zero, e := call.do(d)
			again, f := call.do(d0)
			if zero != again || e != f {
				t.Error(call.name, "returns something else when it is asked again:", zero, e, again, f)
			}
			if !sameLists(d, d0) || !sameOthers(o, o0) || !areBare(d) || !areBare(o.groups) || !isBare(o.circle) || !isBare(o.settlement) {
				t.Error(call.name, "changes an argument")
			}
		}
	})
}

// clearAll writes over a table, beyond its end too.
func clearAll(all [][]int) {
	for _, l := range all {
		clear(l[:cap(l)])
	}
	clear(all[:cap(all)])
}

// TestTheSameIsReturnedAgain compares all results, as any circle, straight debts, settlement and groups are right but just one of
// each is returned, and writes over what was answered first, beyond its end too.
func TestTheSameIsReturnedAgain(t *testing.T) {
	debtTrials(t, 60, func(r *rand.Rand, d loan.Debts) {
		var was [3][]int
		var tables [2][][]int
		var kept []loan.Promise
		for again := range 2 {
			circle, _ := loan.Circle(d)
			nets, _ := loan.Net(d)
			straight, _ := loan.Straight(d)
			groups, _ := loan.Groups(d)
			settled, _ := loan.Settle(d)
			if again == 0 {
				was = [3][]int{slices.Clone(circle), slices.Clone(nets)}
				tables = [2][][]int{copyLists(straight), copyLists(groups)}
				kept = slices.Clone(settled)
			} else if !slices.Equal(was[0], circle) || !slices.Equal(was[1], nets) || !sameLists(tables[0], straight) || !sameLists(tables[1], groups) || !slices.Equal(kept, settled) {
				t.Error(d, "has", circle, nets, straight, groups, settled, "and had", was, tables, kept)
			}
			clear(circle[:cap(circle)])
			clear(nets[:cap(nets)])
			clear(settled[:cap(settled)])
			clearAll(straight)
			clearAll(groups)
		}
	})
	trials(t, 30, func(r *rand.Rand, l loan.Ledger) {
		first, e := loan.Owed(l)
		was := copyLists(first)
		clearAll(first)
		if again, f := loan.Owed(l); !sameLists(again, was) || e != f {
			t.Error(l, "owes", again, e, "and owed", was, f)
		}
		for k := range l.Payments {
			list, _, e := loan.Booked(l, k)
			was := slices.Clone(list)
			clear(list[:cap(list)])
			if again, _, f := loan.Booked(l, k); !slices.Equal(again, was) || e != f {
				t.Error(l, "has booked", again, e, "and had", was, f)
			}
		}
	})
}

// turnLedger changes all numbers of the lists of a ledger.
func turnLedger(l *loan.Ledger) {
	numbers := numbersOf(l)
	for _, n := range numbers[2:] {
		*n += 100
	}
}

// TestLedgersShareNoMemory writes over a ledger from which another one came, and over the other one.
func TestLedgersShareNoMemory(t *testing.T) {
	for name, make := range map[string]func(l loan.Ledger) (loan.Ledger, api.Errno){
		"Lend":    func(l loan.Ledger) (loan.Ledger, api.Errno) { return loan.Lend(l, lent(3, 2, 5)) },
		"Pay":     func(l loan.Ledger) (loan.Ledger, api.Errno) { return loan.Pay(l, paid(3, 2, 5)) },
		"Forgive": func(l loan.Ledger) (loan.Ledger, api.Errno) { return loan.Forgive(l, 0) },
	} {
		l := roomIn(forgiven(1))
		made, e := make(l)
		was := copyLedger(made)
		turnLedger(&l)
		if e != api.OK || !sameLedger(made, was) {
			t.Error(name, "returns a ledger that shares memory with the one from which it came:", made, e)
		}
		was = copyLedger(l)
		turnLedger(&made)
		made.Loans, made.Payments, made.Forgiven = append(made.Loans, lent(9, 9, 9)), append(made.Payments, paid(9, 9, 9)), append(made.Forgiven, 9)
		if !sameLedger(l, was) || !isBareLedger(l) {
			t.Error(name, "takes a ledger that shares memory with the one that came from it:", l)
		}
	}
}

// TestDebtsShareNoMemory writes over debts that came from others, and over the others.
func TestDebtsShareNoMemory(t *testing.T) {
	for name, make := range map[string]func(d loan.Debts) (loan.Debts, api.Errno){
		"Cancel":                    func(d loan.Debts) (loan.Debts, api.Errno) { return loan.Cancel(d, list(0, 3, 2, 1)) },
		"Straight":                  loan.Straight,
		"Straight of straight ones": func(d loan.Debts) (loan.Debts, api.Errno) { d[0][3] = 0; return loan.Straight(d) },
	} {
		d := loan.Debts(roomForAll(round()))
		made, e := make(d)
		was := copyLists(made)
		clearAll(d)
		if e != api.OK || !sameLists(made, was) {
			t.Error(name, "returns debts that share memory with those from which they came:", made, e)
		}
		d = round()
		made, _ = make(d)
		was = copyLists(d)
		clearAll(made)
		if !sameLists(d, was) {
			t.Error(name, "takes debts that share memory with those that came from them:", d)
		}
	}
}

func TestNilListsAreAsEmptyOnes(t *testing.T) {
	for _, l := range []loan.Ledger{{Folk: 2, Years: 2}, {Folk: 2, Years: 2, Loans: loans(lent(1, 0, 5))}, {}} {
		same := roomIn(l)
		for _, call := range calls(allowed()) {
			zero, e := call.do(l)
			again, f := call.do(same)
			if zero != again || e != f {
				t.Error(call.name, "returns another result for empty lists:", zero, e, again, f)
			}
		}
		if loan.Check(l) != loan.Check(same) {
			t.Error("Check returns another error for empty lists")
		}
	}
	empty := others{circle: list(), settlement: promises(), groups: lists()}
	for _, d := range []loan.Debts{nothing(1), nothing(7), round(), nil} {
		for k, call := range debtCalls(others{}) {
			zero, e := call.do(d)
			again, f := debtCalls(empty)[k].do(d)
			if zero != again || e != f {
				t.Error(call.name, "returns another result for empty lists:", zero, e, again, f)
			}
		}
	}
	if e := loan.CheckDebts(loan.Debts{}); e != api.ErrMany {
		t.Error("CheckDebts returns", e)
	}
}

// TestAnyNumbers calls everything with numbers that are seldom allowed.
func TestAnyNumbers(t *testing.T) {
	r := rand.New(rand.NewPCG(7, 12))
	all := list(math.MinInt, math.MinInt+1, -2, -1, 7, 8, 9, 10, 12, 13, 500, 501, 1000000, 1000001, 6000000, 6000001, math.MaxInt-1, math.MaxInt)
	some := func(below int) int {
		if r.IntN(60) > 0 {
			return r.IntN(below)
		}
		return all[r.IntN(len(all))]
	}
	fine, right := 0, 0
	for range 10000 {
		l := loan.Ledger{Folk: 2 + some(5), Years: 1 + some(8)}
		d := nothing(1 + r.IntN(7))
		o := others{which: some(4), payment: some(4), who: some(3), year: some(3), x: lent(some(3), some(3), some(500)), p: paid(some(3), some(9), some(500))}
		for k := range r.IntN(4) {
			l.Loans, l.Payments = append(l.Loans, lent(1+some(1), some(1), 1+some(9))), append(l.Payments, paid(1+some(1), k/2+some(1), 1+some(9)))
			l.Promises = append(l.Promises, owes(some(1), 1+some(1), 1+some(9)))
			l.Bad, l.Forgiven = append(l.Bad, k+some(1)), append(l.Forgiven, k+some(1))
			from := r.IntN(len(d))
			to := r.IntN(len(d))
			if from != to {
				d[from][to] = some(9)
			}
			o.circle, o.settlement, o.groups = append(o.circle, k+some(1)), append(o.settlement, owes(some(2), some(3), 1+some(9))), append(o.groups, list(some(3), some(4)))
		}
		for _, call := range calls(o) {
			if zero, e := call.do(l); e != api.OK && !zero {
				t.Error(call.name, "has a result beside error", e)
			}
		}
		for _, call := range debtCalls(o) {
			if zero, e := call.do(d); e != api.OK && !zero {
				t.Error(call.name, "has a result beside error", e)
			}
		}
		if loan.Check(l) == api.OK {
			fine++
		}
		if loan.CheckDebts(d) == api.OK {
			right++
		}
	}
	if fine < 1000 || fine > 9500 || right < 1000 || right > 9990 {
		t.Error(fine, "ledgers and", right, "debts are allowed")
	}
}
