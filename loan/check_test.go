package loan_test

import (
	"math"
	"math/rand/v2"
	"slices"
	"testing"

	"staddle/api"
	"staddle/loan"
)

func TestConstants(t *testing.T) {
	got := list(loan.Never, loan.MaxFolk, loan.MaxYears, loan.MaxLoans, loan.MaxPayments, loan.MaxPromises, loan.MaxBushels, loan.MaxDebt, loan.MaxSettled)
	if want := list(-1, 7, 9, 10, 12, 12, 500, 1000000, 6000000); !slices.Equal(got, want) {
		t.Error("the constants are", got, "and should be", want)
	}
}

// TestCheckAtTheLimits changes one number of a ledger of 4 people, 3 years and 3 loans; for those that are not allowed the error
// is e.
func TestCheckAtTheLimits(t *testing.T) {
	for _, x := range []struct {
		name        string
		of          func(l *loan.Ledger) *int
		least, most int
		e           api.Errno
	}{
		{"Bushels of a loan", func(l *loan.Ledger) *int { return &l.Loans[2].Bushels }, 1, 500, api.ErrRange},
		{"Bushels of a payment", func(l *loan.Ledger) *int { return &l.Payments[1].Bushels }, 1, 500, api.ErrRange},
		{"Bushels of a promise", func(l *loan.Ledger) *int { return &l.Promises[2].Bushels }, 1, 500, api.ErrRange},
		{"a bad year", func(l *loan.Ledger) *int { return &l.Bad[0] }, 0, 2, api.ErrNot},
		{"a forgiven loan", func(l *loan.Ledger) *int { l.Forgiven = list(0); return &l.Forgiven[0] }, 0, 2, api.ErrNot},
		{"Who of a loan", func(l *loan.Ledger) *int { return &l.Loans[2].Who }, 1, 3, api.ErrNot},
		{"Year of a loan", func(l *loan.Ledger) *int { return &l.Loans[2].Year }, 0, 2, api.ErrNot},
		{"Who of a payment", func(l *loan.Ledger) *int { return &l.Payments[1].Who }, 1, 3, api.ErrNot},
		{"Year of the only payment", func(l *loan.Ledger) *int { l.Payments = l.Payments[:1]; return &l.Payments[0].Year }, 0, 2, api.ErrNot},
		{"From of a promise to a person who is not there", func(l *loan.Ledger) *int { l.Promises[2].To = 4; return &l.Promises[2].From }, 1, 0, api.ErrNot},
		{"From of a promise to 3", func(l *loan.Ledger) *int { return &l.Promises[2].From }, 0, 2, api.ErrNot},
		{"To of a promise of 0", func(l *loan.Ledger) *int { return &l.Promises[2].To }, 1, 3, api.ErrNot},
		{"Folk without any loans", func(l *loan.Ledger) *int { *l = loan.Ledger{Years: 1}; return &l.Folk }, 1, 7, api.ErrMany},
		{"Years without any loans", func(l *loan.Ledger) *int { *l = loan.Ledger{Folk: 1}; return &l.Years }, 1, 9, api.ErrMany},
	} {
		for _, n := range list(math.MinInt, -2, -1, 0, 1, 2, 3, 4, 5, 6, 7, 8, 9, 10, 499, 500, 501, math.MaxInt) {
			l := seed()
			*x.of(&l) = n
			want := x.e
			if n >= x.least && n <= x.most {
				want = api.OK
			}
			got := loan.Check(l)
			if p := l.Promises; got == api.ErrTwice && p[2].From == p[2].To {
				continue
			}
			if got != want {
				t.Error(x.name, n, "has error", got, "and should have", want)
			}
		}
	}
}

func TestCheck(t *testing.T) {
	for _, x := range []struct {
		name string
		l    loan.Ledger
		want api.Errno
	}{
		{"the example", seed(), api.OK}, {"nothing at all", loan.Ledger{}, api.ErrMany},
		{"a granary alone", loan.Ledger{Folk: 1, Years: 1}, api.OK}, {"a granary alone that lends to itself", loan.Ledger{Folk: 1, Years: 1, Loans: loans(lent(0, 0, 1))}, api.ErrNot},
		{"fewer people", but(func(l *loan.Ledger) { l.Folk = 3 }), api.ErrNot}, {"fewer years", but(func(l *loan.Ledger) { l.Years = 1 }), api.ErrNot}, {"one year less", but(func(l *loan.Ledger) { l.Years = 2 }), api.OK},
		{"10 loans", but(func(l *loan.Ledger) { l.Loans = slices.Repeat(l.Loans[:1], 10) }), api.OK}, {"11", but(func(l *loan.Ledger) { l.Loans = slices.Repeat(l.Loans[:1], 11) }), api.ErrMany},
		{"12 payments", but(func(l *loan.Ledger) { l.Payments = slices.Repeat(l.Payments[:1], 12) }), api.OK}, {"13", but(func(l *loan.Ledger) { l.Payments = slices.Repeat(l.Payments[:1], 13) }), api.ErrMany},
		{"12 promises", but(func(l *loan.Ledger) { l.Promises = slices.Repeat(l.Promises[:1], 12) }), api.OK}, {"13", but(func(l *loan.Ledger) { l.Promises = slices.Repeat(l.Promises[:1], 13) }), api.ErrMany},
		{"a million loans", but(func(l *loan.Ledger) { l.Loans = make([]loan.Loan, 1000000) }), api.ErrMany},
		{"all years bad", but(func(l *loan.Ledger) { l.Bad = list(0, 1, 2) }), api.OK}, {"bad years turned round", but(func(l *loan.Ledger) { l.Bad = list(1, 0) }), api.ErrOrder}, {"a bad year twice", but(func(l *loan.Ledger) { l.Bad = list(0, 2, 2) }), api.ErrOrder},
		{"a million bad years", but(func(l *loan.Ledger) { l.Bad = make([]int, 1000000) }), api.ErrOrder}, {"a million, the last of which is none", but(func(l *loan.Ledger) { l.Bad = append(make([]int, 1000000), 3) }), api.ErrNot},
		{"all forgiven", forgiven(0, 1, 2), api.OK}, {"forgiven loans turned round", forgiven(2, 0), api.ErrOrder}, {"a loan forgiven twice", forgiven(1, 1), api.ErrOrder}, {"a million times", forgiven(make([]int, 1000000)...), api.ErrOrder},
		{"payments of the same year", but(func(l *loan.Ledger) { l.Payments[1].Year = 1 }), api.OK}, {"payments of later years", but(func(l *loan.Ledger) { l.Payments[1].Year = 2 }), api.OK}, {"payments turned round", but(func(l *loan.Ledger) { l.Payments[1].Year = 0 }), api.ErrOrder},
		{"loans turned round", but(func(l *loan.Ledger) { slices.Reverse(l.Loans) }), api.OK},
		{"a payment before any loan", but(func(l *loan.Ledger) { l.Loans = nil }), api.OK},
		{"a promise of the granary to itself", but(func(l *loan.Ledger) { l.Promises[2].To = 0 }), api.ErrTwice},
		{"promises among two, both ways", but(func(l *loan.Ledger) { l.Promises = promises(owes(1, 2, 3), owes(2, 1, 3), owes(1, 2, 3)) }), api.OK},
		{"a promise of nobody to the same", but(func(l *loan.Ledger) { l.Promises[0] = owes(9, 9, 1) }), api.ErrNot},
	} {
		if e := loan.Check(x.l); e != x.want {
			t.Error(x.name, "has error", e, "and should have", x.want)
		}
	}
}

// TestCheckInOrder has two errors in each ledger.
func TestCheckInOrder(t *testing.T) {
	broken := []struct {
		e     api.Errno
		first func(l *loan.Ledger)
		last  func(l *loan.Ledger)
	}{
		{api.ErrMany, func(l *loan.Ledger) { l.Folk = 8 }, func(l *loan.Ledger) { l.Promises = slices.Repeat(l.Promises, 5) }},
		{api.ErrMany, func(l *loan.Ledger) { l.Loans = slices.Repeat(l.Loans, 4) }, func(l *loan.Ledger) { l.Payments = slices.Repeat(l.Payments, 7) }},
		{api.ErrRange, func(l *loan.Ledger) { l.Loans[2].Bushels = 0 }, func(l *loan.Ledger) { l.Promises[2].Bushels = 501 }},
		{api.ErrRange, func(l *loan.Ledger) { l.Loans[0].Bushels = 501 }, func(l *loan.Ledger) { l.Payments[1].Bushels = 0 }},
		{api.ErrNot, func(l *loan.Ledger) { l.Bad = append(l.Bad, 3) }, func(l *loan.Ledger) { l.Promises[2].From = -1 }},
		{api.ErrNot, func(l *loan.Ledger) { l.Forgiven = append(l.Forgiven, 3) }, func(l *loan.Ledger) { l.Payments[0].Who = 0 }},
		{api.ErrNot, func(l *loan.Ledger) { l.Loans[2].Year = 3 }, func(l *loan.Ledger) { l.Promises[2].To = 4 }},
		{api.ErrTwice, func(l *loan.Ledger) { l.Promises[0].To = 2 }, func(l *loan.Ledger) { l.Promises[1].From = 2 }},
		{api.ErrOrder, func(l *loan.Ledger) { l.Bad = append(list(2), l.Bad...) }, func(l *loan.Ledger) { l.Payments[1].Year-- }},
		{api.ErrOrder, func(l *loan.Ledger) { l.Forgiven = append(list(2, 2), l.Forgiven...) }, func(l *loan.Ledger) { l.Payments[0].Year++ }},
	}
	for i, early := range broken {
		for _, late := range broken[i:] {
			for _, l := range []loan.Ledger{but(func(l *loan.Ledger) { late.first(l); early.last(l) }), but(func(l *loan.Ledger) { late.last(l); early.first(l) })} {
				if e := loan.Check(l); e != early.e {
					t.Error(l, "has error", e, "and should have", early.e)
				}
			}
		}
	}
}

// errorOfLedger says what is wrong with a ledger, by the words of the chapter.
func errorOfLedger(l loan.Ledger) api.Errno {
	if l.Folk < 1 || l.Folk > 7 || l.Years < 1 || l.Years > 9 || len(l.Loans) > 10 || len(l.Payments) > 12 || len(l.Promises) > 12 {
		return api.ErrMany
	}
	out, not, twice, order := false, false, false, false
	ask := func(who, year, bushels int) {
		out = out || bushels < 1 || bushels > 500
		not = not || who < 1 || who >= l.Folk || year < 0 || year >= l.Years
	}
	for _, x := range l.Loans {
		ask(x.Who, x.Year, x.Bushels)
	}
	for k, p := range l.Payments {
		ask(p.Who, p.Year, p.Bushels)
		order = order || k > 0 && p.Year < l.Payments[k-1].Year
	}
	for _, p := range l.Promises {
		out = out || p.Bushels < 1 || p.Bushels > 500
		not = not || p.From < 0 || p.From >= l.Folk || p.To < 0 || p.To >= l.Folk
		twice = twice || p.From == p.To
	}
	for k, year := range l.Bad {
		not = not || year < 0 || year >= l.Years
		order = order || k > 0 && year <= l.Bad[k-1]
	}
	for k, which := range l.Forgiven {
		not = not || which < 0 || which >= len(l.Loans)
		order = order || k > 0 && which <= l.Forgiven[k-1]
	}
	switch {
	case out:
		return api.ErrRange
	case not:
		return api.ErrNot
	case twice:
		return api.ErrTwice
	case order:
		return api.ErrOrder
	}
	return api.OK
}

// numbersOf are all numbers of a ledger.
func numbersOf(l *loan.Ledger) []*int {
	numbers := []*int{&l.Folk, &l.Years}
	for k := range l.Bad {
		numbers = append(numbers, &l.Bad[k])
	}
	for k := range l.Forgiven {
		numbers = append(numbers, &l.Forgiven[k])
	}
	for k := range l.Loans {
		numbers = append(numbers, &l.Loans[k].Who, &l.Loans[k].Year, &l.Loans[k].Bushels)
	}
	for k := range l.Payments {
		numbers = append(numbers, &l.Payments[k].Who, &l.Payments[k].Year, &l.Payments[k].Bushels)
	}
	for k := range l.Promises {
		numbers = append(numbers, &l.Promises[k].From, &l.Promises[k].To, &l.Promises[k].Bushels)
	}
	return numbers
}

// TestCheckByTheWords changes some numbers of ledgers by a little.
func TestCheckByTheWords(t *testing.T) {
	errors := map[api.Errno]int{}
	trials(t, 1500, func(r *rand.Rand, l loan.Ledger) {
		if r.IntN(20) == 0 {
			l.Loans = append(l.Loans, l.Loans...)
		}
		numbers := numbersOf(&l)
		for range r.IntN(4) {
			*numbers[r.IntN(len(numbers))] += r.IntN(5) - 2
		}
		want := errorOfLedger(l)
		if e := loan.Check(l); e != want {
			t.Error(l, "has error", e, "and should have", want)
		}
		errors[want]++
	})
	if errors[api.OK] < 1000 || errors[api.ErrMany] < 50 || errors[api.ErrRange] < 50 || errors[api.ErrNot] < 300 || errors[api.ErrTwice] < 50 || errors[api.ErrOrder] < 50 {
		t.Error("the errors are", errors)
	}
}

func TestCheckDebts(t *testing.T) {
	with := func(from, to, bushels int) loan.Debts {
		d := nothing(3)
		d[from][to] = bushels
		return d
	}
	for _, x := range []struct {
		name string
		d    loan.Debts
		want api.Errno
	}{
		{"the example", round(), api.OK}, {"none", nil, api.ErrMany}, {"an empty table", loan.Debts{}, api.ErrMany}, {"one person", nothing(1), api.OK}, {"7", nothing(7), api.OK}, {"8", nothing(8), api.ErrMany}, {"a million", make(loan.Debts, 1000000), api.ErrMany},
		{"no row", loan.Debts{nil}, api.ErrMany}, {"a row that is too short", loan.Debts{list(0, 0), list(0)}, api.ErrMany}, {"one that is too long", loan.Debts{list(0, 0), list(0, 0, 0)}, api.ErrMany}, {"the last row is missing", loan.Debts{list(0, 0, 0), list(0, 0, 0)}, api.ErrMany},
		{"the greatest debt", with(1, 2, 1000000), api.OK}, {"a greater one", with(1, 2, 1000001), api.ErrRange}, {"less than nothing", with(2, 0, -1), api.ErrRange}, {"the least number", with(2, 0, math.MinInt), api.ErrRange}, {"the greatest number", with(0, 1, math.MaxInt), api.ErrRange},
		{"a debt of the first one to himself", with(0, 0, 1), api.ErrTwice}, {"of the last one", with(2, 2, 1000000), api.ErrTwice}, {"one that is too great", with(2, 2, 1000001), api.ErrRange}, {"less than nothing to oneself", with(1, 1, -1), api.ErrRange},
		{"a debt to oneself, and one that is too great", loan.Debts{list(1, 0), list(1000001, 0)}, api.ErrRange}, {"a debt that is too great, and a short row", loan.Debts{list(0, -1), list(0)}, api.ErrMany},
	} {
		if e := loan.CheckDebts(x.d); e != x.want {
			t.Error(x.name, "has error", e, "and should have", x.want)
		}
	}
}

// TestCheckDebtsByTheWords changes some debts, and the lengths of rows.
func TestCheckDebtsByTheWords(t *testing.T) {
	errors := map[api.Errno]int{}
	debtTrials(t, 500, func(r *rand.Rand, d loan.Debts) {
		for range r.IntN(3) {
			from := r.IntN(len(d))
			to := r.IntN(len(d))
			if len(d[from]) == len(d) {
				d[from][to] += r.IntN(4) - 1
			}
			if r.IntN(8) == 0 {
				d[from] = d[from][:len(d[from])-1]
			}
		}
		want, out, twice := api.OK, false, false
		for from, row := range d {
			if len(row) != len(d) {
				want = api.ErrMany
			}
			for to, n := range row {
				out = out || n < 0 || n > 1000000
				twice = twice || from == to && n != 0
			}
		}
		if want == api.OK && out {
			want = api.ErrRange
		}
		if want == api.OK && twice {
			want = api.ErrTwice
		}
		if e := loan.CheckDebts(d); e != want {
			t.Error(d, "have error", e, "and should have", want)
		}
		errors[want]++
	})
	if errors[api.OK] < 500 || errors[api.ErrMany] < 50 || errors[api.ErrRange] < 50 || errors[api.ErrTwice] < 50 {
		t.Error("the errors are", errors)
	}
}
