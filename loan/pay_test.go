package loan_test

import (
	"math"
	"math/rand/v2"
	"slices"
	"testing"

	"staddle/api"
	"staddle/loan"
)

func TestBooked(t *testing.T) {
	many := loan.Ledger{
		Folk: 2, Years: 4, Bad: list(0, 1, 2, 3),
		Loans:    loans(lent(1, 1, 10), lent(1, 0, 10), lent(1, 1, 10), lent(1, 3, 10)),
		Payments: payments(paid(1, 0, 5), paid(1, 1, 20), paid(1, 2, 30), paid(1, 3, 4)),
	}
	last := loan.Ledger{Folk: 3, Years: 2, Loans: loans(lent(2, 1, 1), lent(1, 1, 10), lent(1, 0, 1)), Payments: payments(paid(1, 0, 2), paid(1, 0, 2), paid(1, 1, 500), paid(2, 1, 3))}
	for _, x := range []struct {
		name     string
		l        loan.Ledger
		which    int
		want     []loan.Part
		over     int
		e        api.Errno
		forgiven []int
	}{
		{"two loans", seed(), 0, parts(part(0, 44), part(1, 6)), 0, api.OK, nil}, {"too much", seed(), 1, parts(part(2, 22)), 8, api.OK, nil},
		{"forgiven", seed(), 0, parts(part(1, 17)), 33, api.OK, list(0)}, {"the other one is forgiven", seed(), 0, parts(part(0, 44)), 6, api.OK, list(1)}, {"both are forgiven", seed(), 0, nil, 50, api.OK, list(0, 1)},
		{"less than asked", many, 0, parts(part(1, 5)), 0, api.OK, nil}, {"by the years, then by the numbers", many, 1, parts(part(1, 6), part(0, 11), part(2, 3)), 0, api.OK, nil}, {"none of later years", many, 2, parts(part(2, 8)), 22, api.OK, nil}, {"though bushels were over before", many, 3, parts(part(3, 4)), 0, api.OK, nil},
		{"just as much", last, 0, parts(part(2, 2)), 0, api.OK, nil}, {"nothing is asked any more", last, 1, nil, 2, api.OK, nil}, {"one of its own year", last, 2, parts(part(1, 11)), 489, api.OK, nil}, {"a loan of somebody else", last, 3, parts(part(0, 2)), 1, api.OK, nil},
		{"no such payment", seed(), 2, nil, 0, api.ErrNot, nil}, {"none before the first one", seed(), -1, nil, 0, api.ErrNot, nil}, {"the greatest number", seed(), math.MaxInt, nil, 0, api.ErrNot, nil}, {"no payments", loan.Ledger{Folk: 1, Years: 1}, 0, nil, 0, api.ErrNot, nil},
	} {
		x.l.Forgiven = x.forgiven
		if got, over, e := loan.Booked(x.l, x.which); !slices.Equal(got, x.want) || over != x.over || e != x.e {
			t.Error(x.name, ": Booked returns", got, over, e, "and should return", x.want, x.over, x.e)
		}
	}
}

func TestOwesAndOverdue(t *testing.T) {
	bad := but(func(l *loan.Ledger) { l.Bad, l.Payments = list(1, 2), nil })
	late := but(func(l *loan.Ledger) { l.Bad, l.Payments = list(0, 1), nil })
	for _, x := range []struct {
		name      string
		l         loan.Ledger
		who, year int
		n, late   int
		e         api.Errno
	}{
		{"before it is due", seed(), 1, 0, 44, 0, api.OK}, {"all that is left", seed(), 1, 1, 11, 11, api.OK}, {"a year later", seed(), 1, 2, 11, 11, api.OK}, {"another one", seed(), 2, 0, 22, 0, api.OK}, {"nothing any more", seed(), 2, 1, 0, 0, api.OK}, {"nothing was lent", seed(), 3, 2, 0, 0, api.OK},
		{"the granary", seed(), 0, 0, 0, 0, api.OK}, {"the granary in the end", seed(), 0, 2, 0, 0, api.OK},
		{"forgiven", forgiven(0), 1, 0, 0, 0, api.OK}, {"forgiven, the next one is paid", forgiven(0), 1, 2, 0, 0, api.OK},
		{"one of two is never due", bad, 1, 2, 61, 44, api.OK}, {"it is due in its own year", bad, 1, 0, 44, 44, api.OK}, {"none is due yet", late, 1, 1, 61, 0, api.OK}, {"both are due in the last year", late, 1, 2, 61, 61, api.OK},
		{"nobody", seed(), 4, 0, 0, 0, api.ErrNot}, {"nobody before the granary", seed(), -1, 0, 0, 0, api.ErrNot}, {"no such year", seed(), 1, 3, 0, 0, api.ErrNot}, {"no year before the first one", seed(), 1, -1, 0, 0, api.ErrNot}, {"no such year of the granary", seed(), 0, 3, 0, 0, api.ErrNot}, {"neither", seed(), math.MaxInt, math.MinInt, 0, 0, api.ErrNot},
	} {
		n, e := loan.Owes(x.l, x.who, x.year)
		late, f := loan.Overdue(x.l, x.who, x.year)
		if n != x.n || late != x.late || e != x.e || f != x.e {
			t.Error(x.name, ": owes", n, e, "of which is overdue", late, f, "and should", x.n, x.late, x.e)
		}
	}
}

// TestPaymentsByTheWords compares with what was booked bushel by bushel.
func TestPaymentsByTheWords(t *testing.T) {
	several, over, none, some := 0, 0, 0, [3]int{}
	trials(t, 400, func(r *rand.Rand, l loan.Ledger) {
		b := bookAll(l)
		for k := range l.Payments {
			got, left, e := loan.Booked(l, k)
			if !slices.Equal(got, b.parts[k]) || left != b.over[k] || e != api.OK {
				t.Error("payment", k, "of", l, "is booked to", got, left, e, "and should be to", b.parts[k], b.over[k])
			}
			if len(got) > 1 {
				several++
			}
			if left > 0 && len(got) > 0 {
				over++
			}
			if len(got) == 0 {
				none++
			}
		}
		for who := range l.Folk {
			for year := range l.Years {
				n, late := 0, 0
				for k, x := range l.Loans {
					if x.Who != who {
						continue
					}
					left := leftOf(l, b, k, year)
					n += left
					if due := asksIn(l, k); due >= 0 && due <= year {
						late += left
					}
				}
				got, e := loan.Owes(l, who, year)
				gotLate, f := loan.Overdue(l, who, year)
				if got != n || gotLate != late || e != api.OK || f != api.OK {
					t.Error(who, "owes at the end of year", year, "of", l, got, e, "of which is overdue", gotLate, f, "and should", n, late)
				}
				switch {
				case n > 0 && late == n:
					some[0]++
				case late > 0:
					some[1]++
				case n > 0:
					some[2]++
				}
			}
		}
	})
	if several < 500 || over < 500 || none < 500 || slices.Min(some[:]) < 200 {
		t.Error("so many are booked to several loans, and are over, and are not booked:", several, over, none, "; so much is overdue:", some)
	}
}
