package loan_test

import (
	"math/rand/v2"
	"slices"
	"testing"

	"staddle/api"
	"staddle/loan"
)

// full is a ledger with as many loans and payments as can be.
func full() loan.Ledger {
	return but(func(l *loan.Ledger) {
		l.Loans, l.Payments = slices.Repeat(l.Loans[:1], 10), slices.Repeat(l.Payments[:1], 12)
	})
}

func TestLend(t *testing.T) {
	for _, x := range []struct {
		name string
		l    loan.Ledger
		x    loan.Loan
		want api.Errno
	}{
		{"one more", seed(), lent(3, 2, 500), api.OK}, {"one of an earlier year", seed(), lent(1, 0, 1), api.OK}, {"the same once more", seed(), lent(1, 0, 40), api.OK}, {"in a bad year", seed(), lent(2, 0, 7), api.OK},
		{"the first one", loan.Ledger{Folk: 2, Years: 1}, lent(1, 0, 1), api.OK},
		{"none of a year that is not there", seed(), lent(3, 3, 5), api.ErrNot}, {"none of a year before the first one", seed(), lent(3, -1, 5), api.ErrNot}, {"none to the granary", seed(), lent(0, 2, 5), api.ErrNot}, {"none to nobody", seed(), lent(4, 2, 5), api.ErrNot},
		{"none of nothing", seed(), lent(3, 2, 0), api.ErrRange}, {"none of too much", seed(), lent(3, 2, 501), api.ErrRange}, {"too much first", seed(), lent(4, 9, 501), api.ErrRange},
		{"the last one", but(func(l *loan.Ledger) { l.Loans = slices.Repeat(l.Loans[:1], 9) }), lent(3, 2, 5), api.OK}, {"none more", full(), lent(3, 2, 5), api.ErrFull}, {"none more first", full(), lent(9, 9, 999), api.ErrFull},
		{"none in a ledger with an error", but(func(l *loan.Ledger) { l.Folk = 8 }), lent(3, 2, 5), api.ErrMany}, {"nor in one with too many", but(func(l *loan.Ledger) { l.Loans = slices.Repeat(l.Loans[:1], 11) }), lent(3, 2, 5), api.ErrMany},
		{"none in a full one with an error", but(func(l *loan.Ledger) { *l = full(); l.Bad = list(1, 0) }), lent(3, 2, 5), api.ErrOrder},
	} {
		want := loan.Ledger{}
		if x.want == api.OK {
			want = copyLedger(x.l)
			want.Loans = append(want.Loans, x.x)
		}
		if got, e := loan.Lend(x.l, x.x); e != x.want || !sameLedger(got, want) {
			t.Error(x.name, ": Lend returns", got, e, "and should return", want, x.want)
		}
	}
}

func TestPay(t *testing.T) {
	for _, x := range []struct {
		name string
		l    loan.Ledger
		p    loan.Payment
		want api.Errno
	}{
		{"one more", seed(), paid(3, 2, 500), api.OK}, {"one of the same year", seed(), paid(3, 1, 1), api.OK}, {"the same once more", seed(), paid(2, 1, 30), api.OK},
		{"the first one, before any loan", loan.Ledger{Folk: 2, Years: 1}, paid(1, 0, 1), api.OK},
		{"none of a year before", seed(), paid(3, 0, 1), api.ErrOrder}, {"none of a year that is not there", seed(), paid(3, 3, 1), api.ErrNot}, {"none of a year before the first one", seed(), paid(3, -1, 1), api.ErrNot}, {"none of the granary", seed(), paid(0, 2, 1), api.ErrNot}, {"none of nobody", seed(), paid(4, 0, 1), api.ErrNot},
		{"none of nothing", seed(), paid(3, 2, 0), api.ErrRange}, {"none of too much", seed(), paid(3, 2, 501), api.ErrRange}, {"too much first", seed(), paid(4, 0, 501), api.ErrRange},
		{"the last one", but(func(l *loan.Ledger) { l.Payments = slices.Repeat(l.Payments[:1], 11) }), paid(3, 2, 5), api.OK}, {"none more", full(), paid(3, 2, 5), api.ErrFull}, {"none more first", full(), paid(9, 0, 999), api.ErrFull},
		{"none in a ledger with an error", but(func(l *loan.Ledger) { l.Years = 0 }), paid(3, 2, 5), api.ErrMany}, {"nor in one with too many", but(func(l *loan.Ledger) { l.Payments = slices.Repeat(l.Payments[:1], 13) }), paid(3, 2, 5), api.ErrMany},
		{"none in a full one with an error", but(func(l *loan.Ledger) { *l = full(); l.Promises[0].To = 2 }), paid(3, 2, 5), api.ErrTwice},
	} {
		want := loan.Ledger{}
		if x.want == api.OK {
			want = copyLedger(x.l)
			want.Payments = append(want.Payments, x.p)
		}
		if got, e := loan.Pay(x.l, x.p); e != x.want || !sameLedger(got, want) {
			t.Error(x.name, ": Pay returns", got, e, "and should return", want, x.want)
		}
	}
}

func TestForgive(t *testing.T) {
	for _, x := range []struct {
		name  string
		l     loan.Ledger
		which int
		want  []int
		e     api.Errno
	}{
		{"the first one", seed(), 0, list(0), api.OK}, {"the last one", seed(), 2, list(2), api.OK},
		{"one after another one", forgiven(0), 2, list(0, 2), api.OK}, {"one before another one", forgiven(2), 0, list(0, 2), api.OK}, {"one between two", forgiven(0, 2), 1, list(0, 1, 2), api.OK}, {"one before two", forgiven(1, 2), 0, list(0, 1, 2), api.OK},
		{"none twice", forgiven(0), 0, nil, api.ErrTwice}, {"none of many twice", forgiven(0, 1, 2), 1, nil, api.ErrTwice},
		{"none that is not there", seed(), 3, nil, api.ErrNot}, {"none before the first one", seed(), -1, nil, api.ErrNot}, {"none without loans", loan.Ledger{Folk: 1, Years: 1}, 0, nil, api.ErrNot},
		{"none in a ledger with an error", but(func(l *loan.Ledger) { l.Forgiven = list(0, 0) }), 0, nil, api.ErrOrder},
	} {
		want := loan.Ledger{}
		if x.e == api.OK {
			want = copyLedger(x.l)
			want.Forgiven = x.want
		}
		if got, e := loan.Forgive(x.l, x.which); e != x.e || !sameLedger(got, want) {
			t.Error(x.name, ": Forgive returns", got, e, "and should return", want, x.e)
		}
	}
}

// TestEntriesByTheWords makes entries that are often not allowed: their error is that of Check for the ledger they would make.
func TestEntriesByTheWords(t *testing.T) {
	errors := map[api.Errno]int{}
	trials(t, 500, func(r *rand.Rand, l loan.Ledger) {
		x := lent(r.IntN(l.Folk+1), r.IntN(l.Years+1), r.IntN(502))
		want := copyLedger(l)
		want.Loans = append(want.Loans, x)
		e := errorOfLedger(want)
		if len(l.Loans) == 10 {
			e = api.ErrFull
		}
		if e != api.OK {
			want = loan.Ledger{}
		}
		if got, f := loan.Lend(l, x); e != f || !sameLedger(got, want) {
			t.Error(l, x, ": Lend returns", got, f, "and should return", want, e)
		}
		errors[e]++
		p := paid(r.IntN(l.Folk+1), r.IntN(l.Years+1), r.IntN(502))
		want = copyLedger(l)
		want.Payments = append(want.Payments, p)
		e = errorOfLedger(want)
		if len(l.Payments) == 12 {
			e = api.ErrFull
		}
		if e != api.OK {
			want = loan.Ledger{}
		}
		if got, f := loan.Pay(l, p); e != f || !sameLedger(got, want) {
			t.Error(l, p, ": Pay returns", got, f, "and should return", want, e)
		}
		errors[e]++
		which := r.IntN(11)
		want = copyLedger(l)
		e = api.OK
		switch {
		case which >= len(l.Loans):
			e, want = api.ErrNot, loan.Ledger{}
		case slices.Contains(l.Forgiven, which):
			e, want = api.ErrTwice, loan.Ledger{}
		default:
			want.Forgiven = append(want.Forgiven, which)
			slices.Sort(want.Forgiven)
		}
		if got, f := loan.Forgive(l, which); e != f || !sameLedger(got, want) {
			t.Error(l, which, ": Forgive returns", got, f, "and should return", want, e)
		}
		errors[e]++
	})
	if errors[api.OK] < 500 || errors[api.ErrFull] < 500 || errors[api.ErrNot] < 500 || errors[api.ErrOrder] < 200 || errors[api.ErrTwice] < 50 {
		t.Error("the errors are", errors)
	}
}
