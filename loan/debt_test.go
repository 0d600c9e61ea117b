package loan_test

import (
	"math/rand/v2"
	"slices"
	"testing"

	"staddle/api"
	"staddle/loan"
)

func TestOwed(t *testing.T) {
	for _, x := range []struct {
		name string
		l    loan.Ledger
		want loan.Debts
	}{
		{"the example", seed(), round()},
		{"forgiven", forgiven(0), loan.Debts{list(0, 0, 0, 7), list(0, 0, 0, 0), list(0, 11, 0, 0), list(0, 0, 5, 0)}},
		{"a granary alone", loan.Ledger{Folk: 1, Years: 1}, nothing(1)}, {"nobody owes anything", loan.Ledger{Folk: 3, Years: 2}, nothing(3)},
		{"a promise to the granary, besides", but(func(l *loan.Ledger) { l.Promises = promises(owes(1, 0, 4), owes(1, 0, 5)) }), loan.Debts{list(0, 0, 0, 0), list(20, 0, 0, 0), list(0, 0, 0, 0), list(0, 0, 0, 0)}},
		{"promises both ways", but(func(l *loan.Ledger) {
			l.Promises, l.Loans = promises(owes(3, 2, 4), owes(2, 3, 5), owes(3, 2, 500)), nil
		}), loan.Debts{list(0, 0, 0, 0), list(0, 0, 0, 0), list(0, 0, 0, 5), list(0, 0, 504, 0)}},
		{"what is due never is owed, too", but(func(l *loan.Ledger) { l.Bad, l.Payments, l.Promises = list(0, 1, 2), nil, nil }), loan.Debts{list(0, 0, 0, 0), list(61, 0, 0, 0), list(22, 0, 0, 0), list(0, 0, 0, 0)}},
		{"payments of the last year", but(func(l *loan.Ledger) {
			l.Payments, l.Promises = payments(paid(2, 1, 3), paid(2, 2, 4)), nil
		}), loan.Debts{list(0, 0, 0, 0), list(61, 0, 0, 0), list(15, 0, 0, 0), list(0, 0, 0, 0)}},
	} {
		if got, e := loan.Owed(x.l); !sameLists(got, x.want) || e != api.OK {
			t.Error(x.name, ": the debts are", got, e, "and should be", x.want)
		}
	}
}

func TestOwedByTheWords(t *testing.T) {
	rest := 0
	trials(t, 300, func(r *rand.Rand, l loan.Ledger) {
		want := nothing(l.Folk)
		b := bookAll(l)
		for k, x := range l.Loans {
			n := leftOf(l, b, k, l.Years-1)
			want[x.Who][0] += n
			rest += min(n, 1)
		}
		for _, p := range l.Promises {
			want[p.From][p.To] += p.Bushels
		}
		if got, e := loan.Owed(l); !sameLists(got, want) || e != api.OK {
			t.Error("the debts of", l, "are", got, e, "and should be", want)
		}
	})
	if rest < 500 {
		t.Error("something is left of just", rest, "loans")
	}
}

func TestNet(t *testing.T) {
	for _, x := range []struct {
		d    loan.Debts
		want []int
	}{
		{round(), list(4, 0, -6, 2)}, {nothing(1), list(0)}, {loan.Debts{list(0, 3), list(3, 0)}, list(0, 0)}, {loan.Debts{list(0, 3), list(5, 0)}, list(2, -2)}, {netting(3, -3, 5, -5), list(3, -3, 5, -5)},
	} {
		if got, e := loan.Net(x.d); !slices.Equal(got, x.want) || e != api.OK {
			t.Error("the nets of", x.d, "are", got, e, "and should be", x.want)
		}
	}
	greatest := nothing(7)
	for who := range greatest {
		for to := range min(who, 7) {
			greatest[who][to] = 1000000
		}
	}
	if got, e := loan.Net(greatest); !slices.Equal(got, list(6000000, 4000000, 2000000, 0, -2000000, -4000000, -6000000)) || e != api.OK {
		t.Error("the greatest nets are", got, e)
	}
	debtTrials(t, 200, func(r *rand.Rand, d loan.Debts) {
		if got, e := loan.Net(d); !slices.Equal(got, netsOf(d)) || e != api.OK {
			t.Error("the nets of", d, "are", got, e)
		}
	})
}
