package loan_test

import (
	"math/rand/v2"
	"slices"
	"testing"

	"staddle/api"
	"staddle/loan"
)

// bookedTo is what payments up to a year have booked to each loan, and what they were, and what was over.
func bookedTo(t *testing.T, l loan.Ledger, year int) (booked []int, paid, over int) {
	t.Helper()
	booked = make([]int, len(l.Loans))
	for k, p := range l.Payments {
		if p.Year > year {
			break
		}
		list, rest, e := loan.Booked(l, k)
		if e != api.OK {
			t.Fatal("payment", k, "of", l, "has error", e)
		}
		for _, part := range list {
			booked[part.Loan] += part.Bushels
			if part.Bushels < 1 || l.Loans[part.Loan].Who != p.Who || l.Loans[part.Loan].Year > p.Year {
				t.Error("payment", k, "of", l, "is booked to", part)
			}
		}
		paid += p.Bushels
		over += rest
	}
	return booked, paid, over
}

func TestSeedIsAskedBackOnceToTheBushel(t *testing.T) {
	all, some := 0, 0
	trials(t, 300, func(r *rand.Rand, l loan.Ledger) {
		for year := range l.Years {
			booked, paid, over := bookedTo(t, l, year)
			sum := over
			for k, n := range booked {
				asked, e := loan.Asked(l, k)
				left, f := loan.Left(l, k, year)
				if e != api.OK || f != api.OK || l.Loans[k].Year <= year && asked != n+left || n > asked || left < 0 {
					t.Error("for loan", k, "of", l, "is asked", asked, e, "booked", n, "and left", left, f, "at the end of year", year)
				}
				sum += n
				if asked > 0 && left == 0 {
					all++
				}
				if left > 0 && n > 0 {
					some++
				}
			}
			if sum != paid {
				t.Error("of", paid, "in", l, sum, "are booked or over at the end of year", year)
			}
		}
	})
	if all < 1000 || some < 1000 {
		t.Error("so many are booked:", all, "and so many in part:", some)
	}
}

func TestAllDebtsAreSettledByTheFewestPayments(t *testing.T) {
	ledgers, several := 0, 0
	ask := func(r *rand.Rand, d loan.Debts) {
		net, e := loan.Net(d)
		kept, f := loan.Settle(d)
		n, g := loan.Fewest(d)
		groups, h := loan.Groups(d)
		shown, i := loan.Shows(d, groups)
		is, j := loan.Settles(d, kept)
		if slices.ContainsFunc([]api.Errno{e, f, g, h, i, j}, func(e api.Errno) bool { return e != api.OK }) {
			t.Fatal("the settlement of", d, "has errors", e, f, g, h, i, j)
		}
		if !is || len(kept) != n || n != shown || n != len(notZero(net))-len(groups) {
			t.Error("the debts", d, "are settled by", kept, n, "and", groups, "show", shown)
		}
		straight, e := loan.Straight(d)
		again, f := loan.Fewest(straight)
		if e != api.OK || f != api.OK || again != n || n > countDebts(straight) {
			t.Error("straight debts", straight, "are settled by", again, "and should be by", n, e, f)
		}
		if some := notZero(net); len(some) > 0 && n > len(some)-1 || len(some) == 0 && n > 0 {
			t.Error("the debts", d, "of", some, "are settled by", n)
		}
		if len(groups) > 1 {
			several++
		}
	}
	debtTrials(t, 200, ask)
	trials(t, 100, func(r *rand.Rand, l loan.Ledger) {
		d, e := loan.Owed(l)
		if e != api.OK || loan.CheckDebts(d) != api.OK {
			t.Fatal("the debts of", l, "are", d, e)
		}
		ask(r, d)
		ledgers++
	})
	if ledgers < 400 || several < 100 {
		t.Error("just", ledgers, "ledgers, and", several, "have several groups")
	}
}

func TestNoGroupsAndNoSettlementShowFewerPayments(t *testing.T) {
	held, more := 0, 0
	debtTrials(t, 500, func(r *rand.Rand, d loan.Debts) {
		n, _ := loan.Fewest(d)
		if shown, e := loan.Shows(d, someGroups(r, d)); e == api.OK {
			if held++; shown < n {
				t.Error("the debts", d, "need", n, "and groups show", shown)
			}
			if shown > n {
				more++
			}
		}
		l := somePromises(r, d)
		if is, e := loan.Settles(d, l); e == api.OK && is {
			if held++; len(l) < n {
				t.Error("the debts", d, "need", n, "and are settled by", l)
			}
			if len(l) > n {
				more++
			}
		}
	})
	if held < 1000 || more < 300 {
		t.Error("just", held, "hold,", more, "of them show more")
	}
}

func TestNobodyPaysMoreThanIsAsked(t *testing.T) {
	trials(t, 200, func(r *rand.Rand, l loan.Ledger) {
		asked, kept := make([]int, l.Folk), make([]int, l.Folk)
		for k, x := range l.Loans {
			n, _ := loan.Asked(l, k)
			asked[x.Who] += n
		}
		for k, p := range l.Payments {
			_, over, _ := loan.Booked(l, k)
			kept[p.Who] += p.Bushels - over
		}
		for who := range l.Folk {
			n, e := loan.Owes(l, who, l.Years-1)
			if kept[who] > asked[who] || n != asked[who]-kept[who] || e != api.OK {
				t.Error("of", asked[who], "that are asked of", who, "in", l, kept[who], "are paid, and", n, "are owed", e)
			}
		}
	})
}

func TestALoanThatIsForgivenNeverMakesAnybodyOweMore(t *testing.T) {
	less, same := 0, 0
	trials(t, 200, func(r *rand.Rand, l loan.Ledger) {
		for k := range l.Loans {
			free, e := loan.Forgive(l, k)
			if e != api.OK {
				continue
			}
			for who := range l.Folk {
				for year := range l.Years {
					before, _ := loan.Owes(l, who, year)
					after, e := loan.Owes(free, who, year)
					late, _ := loan.Overdue(l, who, year)
					later, f := loan.Overdue(free, who, year)
					if e != api.OK || f != api.OK || after > before || later > late {
						t.Error(who, "owes", before, "of which is overdue", late, "and if loan", k, "of", l, "is forgiven", after, e, later, f)
					}
					if after < before {
						less++
					} else if before > 0 && who == l.Loans[k].Who {
						same++
					}
				}
			}
		}
	})
	if less < 1000 || same < 200 {
		t.Error("so many owe less:", less, "and so many the same:", same)
	}
}

func TestNetsAddUpToNothingAndCirclesChangeNone(t *testing.T) {
	cancelled := 0
	debtTrials(t, 300, func(r *rand.Rand, d loan.Debts) {
		nets, e := loan.Net(d)
		sum := 0
		for _, n := range nets {
			sum += n
		}
		if e != api.OK || sum != 0 {
			t.Error("the nets of", d, "are", nets, e)
		}
		for circle, f := loan.Circle(d); f == api.OK; circle, f = loan.Circle(d) {
			less, e := loan.Cancel(d, circle)
			after, g := loan.Net(less)
			if e != api.OK || g != api.OK || !slices.Equal(nets, after) || countDebts(less) >= countDebts(d) {
				t.Fatal("the debts", d, "without", circle, "are", less, e, g)
			}
			d = less
			cancelled++
		}
	})
	if cancelled < 1000 {
		t.Error("just", cancelled, "circles are cancelled")
	}
}

// TestEntriesAreKept asks for loans and payments one after the other: the ledger is the same as one with all of them.
func TestEntriesAreKept(t *testing.T) {
	trials(t, 100, func(r *rand.Rand, l loan.Ledger) {
		made := copyLedger(l)
		made.Loans, made.Payments, made.Forgiven = nil, nil, nil
		e := api.OK
		for _, x := range l.Loans {
			if e == api.OK {
				made, e = loan.Lend(made, x)
			}
		}
		for _, p := range l.Payments {
			if e == api.OK {
				made, e = loan.Pay(made, p)
			}
		}
		for _, k := range slices.Backward(l.Forgiven) {
			if e == api.OK {
				made, e = loan.Forgive(made, k)
			}
		}
		if e != api.OK || !sameLedger(made, l) {
			t.Error("the ledger is", made, e, "and should be", l)
		}
	})
}
