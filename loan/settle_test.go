package loan_test

import (
	"math"
	"math/rand/v2"
	"slices"
	"testing"

	"staddle/api"
	"staddle/loan"
)

// nets6 are the nets of up to 6 people, the last ones being 0.
type nets6 [6]int

// fewestOf finds the fewest payments for all nets of so many people that are not further from 0 than far, by making one payment
// more, of any size, again and again.
func fewestOf(folk, far int) map[nets6]int {
	known := map[nets6]int{{}: 0}
	last := []nets6{{}}
	for n := 1; len(last) > 0; n++ {
		var next []nets6
		for _, nets := range last {
			for k := range folk * folk * far {
				from, to, bushels := k/far%folk, k/far/folk, 1+k%far
				more := nets
				more[from] -= bushels
				more[to] += bushels
				if _, is := known[more]; is || more[from] < -far || more[to] > far {
					continue
				}
				known[more] = n
				next = append(next, more)
			}
		}
		last = next
	}
	return known
}

// pays is how much is paid in all.
func pays(nets nets6) int {
	sum := 0
	for _, n := range nets {
		sum += max(0, n)
	}
	return sum
}

// TestFewestOfAllNets asks of all nets of small numbers. As no payment needs to be greater than all that is paid, none leads
// further from 0 than this.
func TestFewestOfAllNets(t *testing.T) {
	for _, x := range list(2, 3, 4, 5, 6) {
		far := list(0, 0, 20, 9, 6, 5, 4)[x]
		numbers := map[int]int{}
		for nets, want := range fewestOf(x, far) {
			if pays(nets) > far {
				continue
			}
			d := netting(nets[:x]...)
			n, e := loan.Fewest(d)
			kept, f := loan.Settle(d)
			if n != want || len(kept) != want || e != api.OK || f != api.OK {
				t.Error("the nets", nets, "are settled by", n, e, kept, f, "and should be by", want)
			}
			numbers[n]++
		}
		if len(numbers) != min(x, 5) || x >= 5 && numbers[4] < 40 {
			t.Error(x, "people need so many payments:", numbers)
		}
	}
}

// settles says whether promises settle debts, by the words of the chapter.
func settles(d loan.Debts, l []loan.Promise) bool {
	for who := range d {
		got := 0
		for _, p := range l {
			if p.To == who {
				got += p.Bushels
			}
			if p.From == who {
				got -= p.Bushels
			}
		}
		if got != netOf(d, who) {
			return false
		}
	}
	return true
}

// isPromise says whether a promise can be in a settlement.
func isPromise(d loan.Debts, p loan.Promise) bool {
	return p.From >= 0 && p.From < len(d) && p.To >= 0 && p.To < len(d) && p.From != p.To && p.Bushels >= 1 && p.Bushels <= 6000000
}

func TestSettle(t *testing.T) {
	greatest := nothing(7)
	for who := range greatest {
		for to := range who {
			greatest[who][to] = 1000000
		}
	}
	all := nothing(7)
	for who := 1; who < 7; who++ {
		all[who][0] = 1000000
	}
	// first pays so much to the first three, which get from the others
	many := nothing(7)
	for from := range 3 {
		for to := 3; to < 7; to++ {
			many[from][to] = 1000000 - from - 10*to
		}
	}
	for _, x := range []struct {
		name string
		d    loan.Debts
		n    int
	}{
		{"the example", round(), 2}, {"two groups", netting(3, -3, 5, -5), 2}, {"two groups, across", netting(3, 5, -3, -5), 2}, {"nothing", nothing(7), 0}, {"one person", nothing(1), 0}, {"two who owe the same", loan.Debts{list(0, 3), list(3, 0)}, 0}, {"two", netting(-7, 7), 1},
		{"what comes through another one", loan.Debts{list(0, 4, 0), list(0, 0, 4), list(0, 0, 0)}, 1}, {"one pays all", netting(-21, 1, 2, 3, 4, 5, 6), 6}, {"all pay one", all, 6}, {"two by two", netting(1, 2, 3, -1, -2, -3), 3}, {"three by three", netting(1, 10, 2, 20, -3, -30), 4}, {"the pairs first, as they are more", netting(2, -1, -1, 1, -2, 1), 3},
		{"the greatest debts", greatest, 3}, {"great debts of many", many, 6},
	} {
		kept, e := loan.Settle(x.d)
		n, f := loan.Fewest(x.d)
		if len(kept) != x.n || n != x.n || e != api.OK || f != api.OK || !settles(x.d, kept) || slices.ContainsFunc(kept, func(p loan.Promise) bool { return !isPromise(x.d, p) }) {
			t.Error(x.name, ": the settlement is", kept, e, "of", n, f, "and should be of", x.n)
		}
	}
}

func TestSettleByTheWords(t *testing.T) {
	numbers, great := map[int]int{}, 0
	debtTrials(t, 400, func(r *rand.Rand, d loan.Debts) {
		kept, e := loan.Settle(d)
		n, f := loan.Fewest(d)
		nets := netsOf(d)
		want := len(notZero(nets)) - mostGroups(nets)
		if len(kept) != want || n != want || e != api.OK || f != api.OK || !settles(d, kept) {
			t.Error("the settlement of", d, "is", kept, e, "of", n, f, "and should be of", want)
		}
		for _, p := range kept {
			if !isPromise(d, p) {
				t.Error("in the settlement of", d, "is", p)
			}
			great += p.Bushels / 1000000
		}
		numbers[n]++
	})
	for n := range 7 {
		if numbers[n] < 20 {
			t.Error("so many are settled by as many:", numbers)
		}
	}
	if great < 100 {
		t.Error("just", great, "payments are great")
	}
}

func TestSettles(t *testing.T) {
	six := netting(-6000000, 1000000, 1000000, 1000000, 1000000, 1000000, 1000000)
	for _, x := range []struct {
		name string
		d    loan.Debts
		l    []loan.Promise
		is   bool
		e    api.Errno
	}{
		{"the example", round(), promises(owes(2, 0, 4), owes(2, 3, 2)), true, api.OK}, {"through somebody", round(), promises(owes(2, 1, 6), owes(1, 0, 4), owes(1, 3, 2)), true, api.OK}, {"in two payments", round(), promises(owes(2, 0, 3), owes(2, 3, 2), owes(2, 0, 1)), true, api.OK}, {"round and back", round(), promises(owes(2, 0, 4), owes(0, 1, 9), owes(2, 3, 2), owes(1, 0, 9)), true, api.OK}, {"the debts themselves", round(), promises(owes(0, 3, 7), owes(1, 0, 11), owes(2, 1, 11), owes(3, 2, 5)), true, api.OK},
		{"not all", round(), promises(owes(2, 0, 4)), false, api.OK}, {"the wrong way round", round(), promises(owes(0, 2, 4), owes(3, 2, 2)), false, api.OK}, {"too much", round(), promises(owes(2, 0, 5), owes(2, 3, 2)), false, api.OK}, {"to somebody else", round(), promises(owes(2, 1, 4), owes(2, 3, 2)), false, api.OK}, {"of somebody else", round(), promises(owes(1, 0, 4), owes(2, 3, 2)), false, api.OK}, {"nothing", round(), nil, false, api.OK}, {"nothing of nothing", nothing(2), nil, true, api.OK}, {"something of nothing", nothing(2), promises(owes(0, 1, 1)), false, api.OK}, {"forth and back of nothing", nothing(2), promises(owes(0, 1, 1), owes(1, 0, 1)), true, api.OK},
		{"somebody who is not there", round(), promises(owes(2, 4, 4)), false, api.ErrNot}, {"of somebody who is not there", round(), promises(owes(4, 2, 4)), false, api.ErrNot}, {"before the first one", round(), promises(owes(2, 0, 4), owes(2, 3, 2), owes(-1, 0, 1)), false, api.ErrNot}, {"of the least number", round(), promises(owes(0, math.MinInt, 1)), false, api.ErrNot}, {"the same, and one who is not there, and nothing", round(), promises(owes(2, 2, 0), owes(0, 9, 1)), false, api.ErrNot}, {"the same two, who are not there", round(), promises(owes(9, 9, 1)), false, api.ErrNot},
		{"to the same", round(), promises(owes(2, 0, 4), owes(2, 3, 2), owes(1, 1, 1)), false, api.ErrTwice}, {"nothing, and to the same", round(), promises(owes(2, 0, 0), owes(2, 2, 5)), false, api.ErrTwice},
		{"of nothing", round(), promises(owes(2, 0, 4), owes(2, 3, 2), owes(1, 0, 0)), false, api.ErrRange}, {"less than nothing", round(), promises(owes(0, 2, -4), owes(2, 3, 2)), false, api.ErrRange}, {"too much to be one", round(), promises(owes(2, 0, 6000001)), false, api.ErrRange}, {"the greatest number", round(), promises(owes(2, 0, math.MaxInt)), false, api.ErrRange}, {"the most of one", round(), promises(owes(2, 0, 6000000)), false, api.OK},
		{"the most forth and back", round(), promises(owes(2, 0, 6000000), owes(0, 2, 5999996), owes(2, 3, 2)), true, api.OK}, {"great debts", six, promises(owes(0, 1, 6000000), owes(1, 2, 5000000), owes(2, 3, 4000000), owes(3, 4, 3000000), owes(4, 5, 2000000), owes(5, 6, 1000000)), true, api.OK}, {"a million payments", loan.Debts{list(0, 1000000), list(0, 0)}, slices.Repeat(promises(owes(0, 1, 1)), 1000000), true, api.OK}, {"a million of the most", round(), slices.Repeat(promises(owes(0, 1, 6000000)), 1000000), false, api.OK},
	} {
		if is, e := loan.Settles(x.d, x.l); is != x.is || e != x.e {
			t.Error(x.name, ": Settles returns", is, e, "and should return", x.is, x.e)
		}
	}
}

// somePromises are the debts as promises, those that go round being cancelled or not, and some of them changed.
func somePromises(r *rand.Rand, d loan.Debts) []loan.Promise {
	var all []loan.Promise
	for from, row := range d {
		for to, n := range row {
			if n > 0 {
				all = append(all, owes(from, to, n))
			}
		}
	}
	if r.IntN(2) == 0 {
		all, _ = loan.Settle(d)
	}
	for range r.IntN(3) {
		if len(all) == 0 {
			break
		}
		p := &all[r.IntN(len(all))]
		switch r.IntN(4) {
		case 0:
			p.Bushels += r.IntN(3) - 1
		case 1:
			p.From += r.IntN(3) - 1
		case 2:
			p.To += r.IntN(3) - 1
		case 3:
			via := r.IntN(len(d))
			all = append(all, owes(via, p.To, p.Bushels))
			p = &all[slices.Index(all, *p)]
			p.To = via
		}
	}
	return all
}

func TestSettlesByTheWords(t *testing.T) {
	errors, right := map[api.Errno]int{}, 0
	debtTrials(t, 1000, func(r *rand.Rand, d loan.Debts) {
		l := somePromises(r, d)
		e := api.OK
		for _, p := range l {
			if p.Bushels < 1 || p.Bushels > 6000000 {
				e = api.ErrRange
			}
		}
		for _, p := range l {
			if p.From == p.To {
				e = api.ErrTwice
			}
		}
		for _, p := range l {
			if min(p.From, p.To) < 0 || max(p.From, p.To) >= len(d) {
				e = api.ErrNot
			}
		}
		want := e == api.OK && settles(d, l)
		if is, f := loan.Settles(d, l); is != want || f != e {
			t.Error(l, "settle", d, ":", is, f, "and should", want, e)
		}
		errors[e]++
		if want {
			right++
		}
	})
	if errors[api.ErrNot] < 100 || errors[api.ErrTwice] < 100 || errors[api.ErrRange] < 20 || right < 500 || errors[api.OK]-right < 500 {
		t.Error("the errors are", errors, "and so many are right:", right)
	}
}
