package loan_test

import (
	"math"
	"math/rand/v2"
	"testing"

	"staddle/api"
	"staddle/loan"
)

func TestAsked(t *testing.T) {
	for bushels := 1; bushels <= 500; bushels++ {
		l := but(func(l *loan.Ledger) { l.Loans[1].Bushels = bushels })
		tenth := bushels / 10
		if bushels%10 > 0 {
			tenth++
		}
		if n, e := loan.Asked(l, 1); n != bushels+tenth || e != api.OK {
			t.Error("for", bushels, "is asked", n, e)
		}
	}
	for _, x := range []struct {
		l        loan.Ledger
		which, n int
		e        api.Errno
	}{
		{seed(), 0, 44, api.OK}, {seed(), 1, 17, api.OK}, {seed(), 2, 22, api.OK}, {forgiven(0), 0, 0, api.OK}, {forgiven(0), 1, 17, api.OK}, {forgiven(0, 2), 2, 0, api.OK}, {forgiven(0, 2), 1, 17, api.OK},
		{seed(), 3, 0, api.ErrNot}, {seed(), -1, 0, api.ErrNot}, {seed(), math.MaxInt, 0, api.ErrNot}, {seed(), math.MinInt, 0, api.ErrNot}, {loan.Ledger{Folk: 1, Years: 1}, 0, 0, api.ErrNot},
	} {
		if n, e := loan.Asked(x.l, x.which); n != x.n || e != x.e {
			t.Error("for loan", x.which, "of", x.l, "is asked", n, e, "and should be", x.n, x.e)
		}
	}
}

func TestDue(t *testing.T) {
	for _, x := range []struct {
		name       string
		bad        []int
		year, want int
	}{
		{"the same year", nil, 1, 1}, {"the first year", nil, 0, 0}, {"the last year", nil, 2, 2},
		{"a good year among bad ones", list(0, 2), 1, 1}, {"a year later", list(0), 0, 1}, {"two years later", list(0, 1), 0, 2}, {"a year before was good", list(1), 1, 2},
		{"never, all are bad", list(0, 1, 2), 0, loan.Never}, {"never, all later ones are bad", list(1, 2), 1, loan.Never}, {"never, the last one is bad", list(2), 2, loan.Never}, {"before they were bad", list(1, 2), 0, 0},
	} {
		for _, some := range [][]int{nil, list(1)} {
			l := but(func(l *loan.Ledger) { l.Bad, l.Loans[1].Year, l.Forgiven = x.bad, x.year, some })
			if year, e := loan.Due(l, 1); year != x.want || e != api.OK {
				t.Error(x.name, ": it is due in", year, e, "and should be in", x.want)
			}
		}
	}
	for _, which := range list(-1, 3, math.MinInt, math.MaxInt) {
		if year, e := loan.Due(seed(), which); year != 0 || e != api.ErrNot {
			t.Error("loan", which, "is due in", year, e)
		}
	}
}

// TestLeft has one payment each year, which comes after some of the loans.
func TestLeft(t *testing.T) {
	many := loan.Ledger{
		Folk: 2, Years: 4,
		Loans:    loans(lent(1, 1, 10), lent(1, 0, 10), lent(1, 1, 10), lent(1, 3, 10)),
		Payments: payments(paid(1, 0, 5), paid(1, 1, 20), paid(1, 2, 30), paid(1, 3, 4)),
	}
	for which, want := range lists(list(0, 0, 0, 0), list(6, 0, 0, 0), list(0, 8, 0, 0), list(0, 0, 0, 7)) {
		for year, n := range want {
			if got, e := loan.Left(many, which, year); got != n || e != api.OK {
				t.Error("at the end of year", year, got, "is left of loan", which, e, "and should be", n)
			}
		}
	}
	for _, x := range []struct {
		l              loan.Ledger
		which, year, n int
		e              api.Errno
	}{
		{seed(), 0, 0, 44, api.OK}, {seed(), 0, 1, 0, api.OK}, {seed(), 1, 0, 0, api.OK}, {seed(), 1, 1, 11, api.OK}, {seed(), 1, 2, 11, api.OK}, {seed(), 2, 0, 22, api.OK}, {seed(), 2, 2, 0, api.OK},
		{forgiven(0), 0, 0, 0, api.OK}, {forgiven(0), 1, 1, 0, api.OK}, {forgiven(1), 1, 2, 0, api.OK},
		{seed(), 3, 0, 0, api.ErrNot}, {seed(), -1, 0, 0, api.ErrNot}, {seed(), 0, 3, 0, api.ErrNot}, {seed(), 0, -1, 0, api.ErrNot}, {seed(), 9, 9, 0, api.ErrNot}, {forgiven(0), 0, 3, 0, api.ErrNot},
	} {
		if n, e := loan.Left(x.l, x.which, x.year); n != x.n || e != x.e {
			t.Error("at the end of year", x.year, n, "is left of loan", x.which, e, "and should be", x.n, x.e)
		}
	}
}

func TestPaid(t *testing.T) {
	for _, x := range []struct {
		name        string
		l           loan.Ledger
		which, year int
		e           api.Errno
	}{
		{"the example", seed(), 0, 1, api.OK}, {"not all of it", seed(), 1, 0, api.ErrNone}, {"more than asked", seed(), 2, 1, api.OK},
		{"just as much", but(func(l *loan.Ledger) { l.Payments[1].Bushels = 22 }), 2, 1, api.OK}, {"one less", but(func(l *loan.Ledger) { l.Payments[1].Bushels = 21 }), 2, 0, api.ErrNone},
		{"in the last year", but(func(l *loan.Ledger) { l.Payments = append(l.Payments, paid(1, 2, 11)) }), 1, 2, api.OK}, {"the rest in the last year, but one", but(func(l *loan.Ledger) { l.Payments = append(l.Payments, paid(1, 2, 10)) }), 1, 0, api.ErrNone},
		{"in its own year", but(func(l *loan.Ledger) { l.Loans[2].Year = 1 }), 2, 1, api.OK},
		{"after years without payments", but(func(l *loan.Ledger) { l.Years, l.Payments[1].Year = 9, 8 }), 2, 8, api.OK},
		{"no payments", but(func(l *loan.Ledger) { l.Payments = nil }), 0, 0, api.ErrNone}, {"payments of others", but(func(l *loan.Ledger) { l.Loans[1].Who = 3 }), 1, 0, api.ErrNone}, {"payments before", but(func(l *loan.Ledger) { l.Loans[2].Year = 2 }), 2, 0, api.ErrNone},
		{"forgiven", forgiven(0), 0, 0, api.OK}, {"forgiven, of a later year", forgiven(1), 1, 1, api.OK}, {"forgiven, of a year after all payments", but(func(l *loan.Ledger) { l.Forgiven, l.Loans[2].Year = list(2), 2 }), 2, 2, api.OK}, {"the next one is forgiven", forgiven(0), 1, 1, api.OK},
		{"the last one of all is due never", but(func(l *loan.Ledger) { l.Bad = list(1, 2) }), 0, 1, api.OK},
		{"no such loan", seed(), 3, 0, api.ErrNot}, {"none before the first one", seed(), -1, 0, api.ErrNot},
	} {
		if year, e := loan.Paid(x.l, x.which); year != x.year || e != x.e {
			t.Error(x.name, ": it is paid in", year, e, "and should be in", x.year, x.e)
		}
	}
}

func TestLoansByTheWords(t *testing.T) {
	dues, ends := map[string]int{}, map[string]int{}
	trials(t, 300, func(r *rand.Rand, l loan.Ledger) {
		b := bookAll(l)
		for k, x := range l.Loans {
			n, e := loan.Asked(l, k)
			due, f := loan.Due(l, k)
			if n != tithed(l, k) || due != asksIn(l, k) || e != api.OK || f != api.OK {
				t.Error("for loan", k, "of", l, "is asked", n, "in", due, e, f)
			}
			first := -1
			for year := range l.Years {
				want := leftOf(l, b, k, year)
				if n, e := loan.Left(l, k, year); n != want || e != api.OK {
					t.Error("at the end of year", year, "of", l, n, "is left of loan", k, e, "and should be", want)
				}
				if year >= x.Year && want == 0 && first < 0 {
					first = year
				}
			}
			year, e := loan.Paid(l, k)
			if first >= 0 && (year != first || e != api.OK) || first < 0 && (year != 0 || e != api.ErrNone) {
				t.Error("loan", k, "of", l, "is paid in", year, e, "and should be in", first)
			}
			dues[kindOf(due, x.Year)]++
			ends[kindOf(first, x.Year)]++
		}
	})
	if dues["never"] < 200 || dues["at once"] < 1000 || dues["later"] < 500 || ends["never"] < 1000 || ends["at once"] < 500 || ends["later"] < 500 {
		t.Error("they are due", dues, "and paid", ends)
	}
}

// kindOf says whether a year is later than another one, or the same.
func kindOf(year, from int) string {
	switch {
	case year < 0:
		return "never"
	case year > from:
		return "later"
	}
	return "at once"
}
