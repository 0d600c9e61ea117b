package loan_test

import (
	"math/rand/v2"
	"slices"
	"testing"

	"staddle/api"
	"staddle/loan"
)

func list(numbers ...int) []int { return numbers }

func lists(all ...[]int) [][]int { return all }

func lent(who, year, bushels int) loan.Loan { return loan.Loan{Who: who, Year: year, Bushels: bushels} }

func loans(all ...loan.Loan) []loan.Loan { return all }

func paid(who, year, bushels int) loan.Payment {
	return loan.Payment{Who: who, Year: year, Bushels: bushels}
}

func payments(all ...loan.Payment) []loan.Payment { return all }

func owes(from, to, bushels int) loan.Promise {
	return loan.Promise{From: from, To: to, Bushels: bushels}
}

func promises(all ...loan.Promise) []loan.Promise { return all }

func part(k, bushels int) loan.Part { return loan.Part{Loan: k, Bushels: bushels} }

func parts(all ...loan.Part) []loan.Part { return all }

// seed is the ledger of the chapter's examples.
func seed() loan.Ledger {
	return loan.Ledger{
		Folk: 4, Years: 3, Bad: list(0),
		Loans:    loans(lent(1, 0, 40), lent(1, 1, 15), lent(2, 0, 20)),
		Payments: payments(paid(1, 1, 50), paid(2, 1, 30)),
		Promises: promises(owes(2, 1, 11), owes(3, 2, 5), owes(0, 3, 7)),
	}
}

// but returns the ledger of the chapter's examples, changed.
func but(change func(l *loan.Ledger)) loan.Ledger {
	l := seed()
	change(&l)
	return l
}

// forgiven returns the ledger of the chapter's examples, in which some loans are forgiven.
func forgiven(some ...int) loan.Ledger {
	return but(func(l *loan.Ledger) { l.Forgiven = some })
}

// round is the debts of the chapter's third example.
func round() loan.Debts {
	return loan.Debts{list(0, 0, 0, 7), list(11, 0, 0, 0), list(0, 11, 0, 0), list(0, 0, 5, 0)}
}

// netting returns debts with such nets: who must pay owes it all to person 0, who owes to all others what they must get.
func netting(nets ...int) loan.Debts {
	d := nothing(len(nets))
	for who, n := range nets[1:] {
		if n < 0 {
			d[who+1][0] = -n
		} else {
			d[0][who+1] = n
		}
	}
	return d
}

// nothing is so many people who owe nothing.
func nothing(folk int) loan.Debts {
	d := make(loan.Debts, folk)
	for who := range d {
		d[who] = make([]int, folk)
	}
	return d
}

func copyLedger(l loan.Ledger) loan.Ledger {
	l.Bad, l.Forgiven, l.Loans, l.Payments, l.Promises = slices.Clone(l.Bad), slices.Clone(l.Forgiven), slices.Clone(l.Loans), slices.Clone(l.Payments), slices.Clone(l.Promises)
	return l
}

func sameLedger(a, b loan.Ledger) bool {
	same := slices.Equal(a.Bad, b.Bad) && slices.Equal(a.Forgiven, b.Forgiven) && slices.Equal(a.Loans, b.Loans)
	return same && slices.Equal(a.Payments, b.Payments) && slices.Equal(a.Promises, b.Promises) && a.Folk == b.Folk && a.Years == b.Years
}

func copyLists(all [][]int) [][]int {
	same := make([][]int, len(all))
	for k := range all {
		same[k] = slices.Clone(all[k])
	}
	return same
}

func sameLists(a, b [][]int) bool { return slices.EqualFunc(a, b, slices.Equal[[]int]) }

// tithed is what is asked for a loan, by the words of the chapter.
func tithed(l loan.Ledger, k int) int {
	if slices.Contains(l.Forgiven, k) {
		return 0
	}
	tenths := 0
	for tenths*10 < l.Loans[k].Bushels {
		tenths++
	}
	return l.Loans[k].Bushels + tenths
}

// asksIn is the year in which a loan is due, by the words of the chapter.
func asksIn(l loan.Ledger, k int) int {
	year := l.Loans[k].Year
	for slices.Contains(l.Bad, year) {
		year++
	}
	if year >= l.Years {
		return loan.Never
	}
	return year
}

// bookings is what was booked, bushel by bushel.
type bookings struct {
	parts [][]loan.Part
	over  []int
	by    [][]int
}

// bookAll books all payments bushel by bushel: by is what was booked to each loan after so many of them.
func bookAll(l loan.Ledger) bookings {
	got := make([]int, len(l.Loans))
	all := bookings{by: lists(slices.Clone(got))}
	for _, p := range l.Payments {
		var list []loan.Part
		over := 0
		for range p.Bushels {
			k := oldestAsked(l, p, got)
			if k < 0 {
				over++
				continue
			}
			got[k]++
			if n := len(list); n > 0 && list[n-1].Loan == k {
				list[n-1].Bushels++
			} else {
				list = append(list, part(k, 1))
			}
		}
		all.parts, all.over, all.by = append(all.parts, list), append(all.over, over), append(all.by, slices.Clone(got))
	}
	return all
}

// oldestAsked is the loan to which the next bushel of a payment is booked, or -1.
func oldestAsked(l loan.Ledger, p loan.Payment, got []int) int {
	best := -1
	for k, x := range l.Loans {
		if x.Who == p.Who && x.Year <= p.Year && got[k] < tithed(l, k) && (best < 0 || x.Year < l.Loans[best].Year) {
			best = k
		}
	}
	return best
}

// leftOf is what is left of a loan at the end of a year, by the words of the chapter.
func leftOf(l loan.Ledger, b bookings, k, year int) int {
	if year < l.Loans[k].Year {
		return 0
	}
	until := 0
	for until < len(l.Payments) && l.Payments[until].Year <= year {
		until++
	}
	return tithed(l, k) - b.by[until][k]
}

// someFolk is a ledger with people and years, some of which are bad.
func someFolk(r *rand.Rand, folk, years, bad int) loan.Ledger {
	l := loan.Ledger{Folk: folk, Years: years}
	for year := range years {
		if r.IntN(10) < bad {
			l.Bad = append(l.Bad, year)
		}
	}
	return l
}

// fill lends, and takes, up to so many loans and payments, of up to so many bushels, and forgives some.
func fill(r *rand.Rand, l *loan.Ledger, loans, payments, bushels int) {
	for k := range loans {
		l.Loans = append(l.Loans, lent(1+r.IntN(l.Folk-1), r.IntN(l.Years), 1+r.IntN(bushels)))
		if r.IntN(8) == 0 {
			l.Forgiven = append(l.Forgiven, k)
		}
	}
	var years []int
	for range payments {
		years = append(years, r.IntN(l.Years))
	}
	slices.Sort(years)
	for _, year := range years {
		l.Payments = append(l.Payments, paid(1+r.IntN(l.Folk-1), year, 1+r.IntN(bushels*2)))
	}
}

// promise lets so many promise something to one another.
func promise(r *rand.Rand, l *loan.Ledger, n, bushels int) {
	for range n {
		from := r.IntN(l.Folk)
		l.Promises = append(l.Promises, owes(from, (from+1+r.IntN(l.Folk-1))%l.Folk, 1+r.IntN(bushels)))
	}
}

// oneFarmer is a ledger in which one farmer has all loans.
func oneFarmer(r *rand.Rand) loan.Ledger {
	l := someFolk(r, 2, 1+r.IntN(loan.MaxYears), r.IntN(5))
	fill(r, &l, 1+r.IntN(6), r.IntN(8), 20)
	return l
}

// village is a ledger of some people.
func village(r *rand.Rand) loan.Ledger {
	l := someFolk(r, 2+r.IntN(4), 1+r.IntN(5), r.IntN(8))
	fill(r, &l, r.IntN(8), r.IntN(9), 30)
	promise(r, &l, r.IntN(6), 20)
	return l
}

// bushelFolk is a ledger of small numbers.
func bushelFolk(r *rand.Rand) loan.Ledger {
	l := someFolk(r, 2+r.IntN(2), 1+r.IntN(4), 3)
	fill(r, &l, r.IntN(7), r.IntN(9), 3)
	promise(r, &l, r.IntN(5), 4)
	return l
}

// fullLedger is a ledger up to the limits.
func fullLedger(r *rand.Rand) loan.Ledger {
	l := someFolk(r, 2+r.IntN(loan.MaxFolk-1), loan.MaxYears, 3)
	fill(r, &l, loan.MaxLoans, loan.MaxPayments, loan.MaxBushels/2)
	promise(r, &l, loan.MaxPromises, loan.MaxBushels)
	return l
}

// trials asks of so many ledgers of each kind.
func trials(t *testing.T, n int, ask func(r *rand.Rand, l loan.Ledger)) {
	t.Helper()
	r := rand.New(rand.NewPCG(10, 29))
	for _, make := range []func(r *rand.Rand) loan.Ledger{oneFarmer, village, bushelFolk, fullLedger} {
		for range n {
			l := make(r)
			if e := loan.Check(l); e != api.OK {
				t.Fatal(l, "is not allowed:", e)
			}
			ask(r, l)
		}
	}
}

// thinDebts are few debts of a few bushels.
func thinDebts(r *rand.Rand) loan.Debts { return someDebts(r, 1+r.IntN(loan.MaxFolk), 15, 4) }

// thickDebts are many debts of a few bushels.
func thickDebts(r *rand.Rand) loan.Debts { return someDebts(r, 2+r.IntN(loan.MaxFolk-1), 60, 3) }

// greatDebts are debts up to the limits.
func greatDebts(r *rand.Rand) loan.Debts {
	d := someDebts(r, loan.MaxFolk, 30+r.IntN(70), loan.MaxDebt)
	for k := range d {
		if r.IntN(3) == 0 && k > 0 {
			d[k][k-1] = loan.MaxDebt
		}
	}
	return d
}

// pairedDebts are debts of several lots of people who owe nothing to those of other lots, in any order.
func pairedDebts(r *rand.Rand) loan.Debts {
	d := nothing(loan.MaxFolk)
	lot := r.Perm(loan.MaxFolk)
	for range 8 {
		a, b := r.IntN(loan.MaxFolk), r.IntN(loan.MaxFolk)
		if a != b && lot[a]/2 == lot[b]/2 {
			d[a][b] += 1 + r.IntN(1000)
		}
	}
	for range r.IntN(4) {
		a := r.IntN(loan.MaxFolk)
		d[a][(a+1)%loan.MaxFolk] += r.IntN(2)
	}
	return d
}

// someDebts are debts of up to so many bushels, as many in a hundred of which are not 0.
func someDebts(r *rand.Rand, folk, inHundred, bushels int) loan.Debts {
	d := nothing(folk)
	for from := range d {
		for to := range d {
			if from != to && r.IntN(100) < inHundred {
				d[from][to] = 1 + r.IntN(bushels)
			}
		}
	}
	return d
}

// debtTrials asks of so many debts of each kind.
func debtTrials(t *testing.T, n int, ask func(r *rand.Rand, d loan.Debts)) {
	t.Helper()
	r := rand.New(rand.NewPCG(11, 7))
	for _, make := range []func(r *rand.Rand) loan.Debts{thinDebts, thickDebts, greatDebts, pairedDebts} {
		for range n {
			d := make(r)
			if e := loan.CheckDebts(d); e != api.OK {
				t.Fatal(d, "are not allowed:", e)
			}
			ask(r, d)
		}
	}
}

// netOf is the net of somebody, by the words of the chapter.
func netOf(d loan.Debts, who int) int {
	net := 0
	for other := range d {
		net += d[other][who] - d[who][other]
	}
	return net
}

// netsOf are the nets of all people.
func netsOf(d loan.Debts) []int {
	var nets []int
	for who := range d {
		nets = append(nets, netOf(d, who))
	}
	return nets
}

// notZero are the numbers of those that are not 0.
func notZero(nets []int) []int {
	var some []int
	for who, n := range nets {
		if n != 0 {
			some = append(some, who)
		}
	}
	return some
}
