package bread_test

import (
	"math/rand/v2"
	"slices"
	"testing"

	"staddle/api"
	"staddle/bread"
)

const ever, never = bread.Ever, bread.Never

func list(numbers ...int) []int { return numbers }

func bads(all ...bool) []bool { return all }

func state(stock, short, dry int) bread.State {
	return bread.State{Stock: stock, Short: short, Dry: dry}
}

func states(all ...bread.State) []bread.State { return all }

func row(s bread.State, lasts, ration int) bread.Row {
	return bread.Row{State: s, Lasts: lasts, Ration: ration}
}

func rows(all ...bread.Row) []bread.Row { return all }

func fate(s bread.State, bads int) bread.Fate { return bread.Fate{State: s, Bads: bads} }

func fates(all ...bread.Fate) []bread.Fate { return all }

func sold(sacks, price int) bread.Ration { return bread.Ration{Sacks: sacks, Price: price} }

// mill is the town of the chapter's examples, with some stock.
func mill(stock int) bread.Town {
	return bread.Town{Now: state(stock, 0, 0), Holds: 12, Need: 4, Patience: 1, Run: 2, Good: 6, Rations: []bread.Ration{sold(4, 10), sold(2, 16)}}
}

// but returns the town of the chapter's examples, changed.
func but(change func(t *bread.Town)) bread.Town {
	t := mill(8)
	change(&t)
	return t
}

// hut is a town that holds 2 sacks, needs and sells one each year, and has such harvests.
func hut(stock, run, good, bad int) bread.Town {
	return bread.Town{Now: state(stock, 0, 0), Holds: 2, Need: 1, Run: run, Good: good, Bad: bad, Rations: []bread.Ration{sold(1, 5)}}
}

// at returns a town in another state.
func at(t bread.Town, s bread.State) bread.Town {
	t.Now = s
	return t
}

func copyTown(t bread.Town) bread.Town {
	t.Rations = slices.Clone(t.Rations)
	return t
}

func sameTown(a, b bread.Town) bool {
	same := slices.Equal(a.Rations, b.Rations)
	return same && a.Now == b.Now && a.Holds == b.Holds && a.Need == b.Need && a.Patience == b.Patience && a.Run == b.Run && a.Good == b.Good && a.Bad == b.Bad && a.Rot == b.Rot
}

// allStates are all states of a town.
func allStates(t bread.Town) []bread.State {
	var all []bread.State
	for k := range (t.Holds + 1) * (t.Patience + 1) * (t.Run + 1) {
		rest := k / (t.Run + 1)
		all = append(all, state(rest/(t.Patience+1), rest%(t.Patience+1), k%(t.Run+1)))
	}
	return all
}

// isState says whether the numbers of a state are allowed in a town.
func isState(t bread.Town, s bread.State) bool {
	return s.Stock >= 0 && s.Stock <= t.Holds && s.Short >= 0 && s.Short <= t.Patience && s.Dry >= 0 && s.Dry <= t.Run
}

// canSell are the rations that are allowed in a state, by the words of the chapter.
func canSell(t bread.Town, s bread.State) []int {
	var all []int
	for k, r := range t.Rations {
		short := r.Sacks < t.Need
		if r.Sacks > s.Stock || short && s.Short >= t.Patience {
			continue
		}
		all = append(all, k)
	}
	return all
}

// canBeBad says whether the harvest can be bad in a state.
func canBeBad(t bread.Town, s bread.State) bool { return s.Dry < t.Run }

// errorOfYear says what is wrong with a ration and a harvest in a state.
func errorOfYear(t bread.Town, s bread.State, ration int, bad bool) api.Errno {
	switch {
	case ration < 0 || ration >= len(t.Rations):
		return api.ErrNot
	case !slices.Contains(canSell(t, s), ration):
		return api.ErrFull
	case bad && !canBeBad(t, s):
		return api.ErrClash
	}
	return api.OK
}

// after is the state after a ration that is allowed, and a harvest, by the words of the chapter.
func after(t bread.Town, s bread.State, ration int, bad bool) bread.State {
	r := t.Rations[ration]
	rest := s.Stock - r.Sacks
	lost := 0
	for lost*10 < rest*t.Rot {
		lost++
	}
	next := state(rest-lost+t.Good, 0, 0)
	if bad {
		next = state(rest-lost+t.Bad, 0, s.Dry+1)
	}
	if next.Stock > t.Holds {
		next.Stock = t.Holds
	}
	if r.Sacks < t.Need {
		next.Short = s.Short + 1
	}
	return next
}

// set is states, each of which is in it or not.
type set map[bread.State]bool

// goesOn are the states, of some, from which a ration leads to one of the same, and to one of others if the harvest is bad, year
// by year. If no harvest is bad, there are no others.
func goesOn(t bread.Town, some []bread.State, others set, dry bool) []bread.State {
	for {
		same := set{}
		for _, s := range some {
			same[s] = true
		}
		left := slices.DeleteFunc(slices.Clone(some), func(s bread.State) bool {
			return !slices.ContainsFunc(canSell(t, s), func(k int) bool {
				return same[after(t, s, k, false)] && (!dry || !canBeBad(t, s) || others[after(t, s, k, true)])
			})
		})
		if len(left) == len(some) {
			return some
		}
		some = left
	}
}

// lastsOf says how many bad harvests each state of a town lasts: those that last 0, then of these those that last 1, and so on,
// until as many last one more.
func lastsOf(t bread.Town) map[bread.State]int {
	lasts := map[bread.State]int{}
	for _, s := range allStates(t) {
		lasts[s] = never
	}
	some := goesOn(t, allStates(t), nil, false)
	for n := 0; ; n++ {
		others := set{}
		for _, s := range some {
			lasts[s] = n
			others[s] = true
		}
		more := goesOn(t, some, others, true)
		if len(more) == len(some) {
			break
		}
		some = more
	}
	for _, s := range some {
		lasts[s] = ever
	}
	return lasts
}

// feastTown is one that needs about as much as good harvests bring.
func feastTown(r *rand.Rand) bread.Town {
	need := 1 + r.IntN(4)
	t := bread.Town{Need: need, Holds: need + r.IntN(3*need+1), Patience: r.IntN(4), Run: r.IntN(4), Good: need + r.IntN(need+1)}
	t.Bad = r.IntN(need + 1)
	sell(r, &t, need+r.IntN(2))
	return t
}

// dryTown is one with bad harvests of nothing.
func dryTown(r *rand.Rand) bread.Town {
	need := 2 + r.IntN(3)
	t := bread.Town{Need: need, Holds: 3*need + r.IntN(6), Patience: 1 + r.IntN(3), Run: 1 + r.IntN(3), Good: need + 1 + r.IntN(2)}
	sell(r, &t, need)
	return t
}

// rottenTown is one in which much is lost.
func rottenTown(r *rand.Rand) bread.Town {
	t := feastTown(r)
	t.Rot = 1 + r.IntN(bread.MaxRot)
	t.Good += r.IntN(3)
	return t
}

// anyTown is one of any numbers, but small ones.
func anyTown(r *rand.Rand) bread.Town {
	t := bread.Town{Need: r.IntN(6), Holds: r.IntN(10), Patience: r.IntN(4), Run: r.IntN(4), Good: r.IntN(8), Rot: r.IntN(6)}
	t.Bad = r.IntN(t.Good + 1)
	sell(r, &t, r.IntN(8))
	return t
}

// sell gives a town some rations, the first one of so many sacks, and puts it into a state.
func sell(r *rand.Rand, t *bread.Town, sacks int) {
	price := r.IntN(20)
	for range 1 + r.IntN(bread.MaxRations) {
		if sacks < 0 {
			break
		}
		t.Rations = append(t.Rations, sold(sacks, price))
		sacks -= 1 + r.IntN(2)
		price += 1 + r.IntN(20)
	}
	t.Now = someState(r, *t)
}

// someState is any state of a town, more often one with much in stock.
func someState(r *rand.Rand, t bread.Town) bread.State {
	s := state(r.IntN(t.Holds+1), r.IntN(t.Patience+1), r.IntN(t.Run+1))
	if r.IntN(2) == 0 {
		s = state(t.Holds, 0, 0)
	}
	return s
}

// greatTown is one up to the limits.
func greatTown(r *rand.Rand) bread.Town {
	need := 1 + r.IntN(9)
	t := bread.Town{Need: need, Holds: bread.MaxHolds, Patience: bread.MaxRow, Run: bread.MaxRow, Good: need + r.IntN(3), Rot: max(0, r.IntN(8)-5)}
	t.Bad = max(0, r.IntN(4)-2)
	sell(r, &t, need+r.IntN(3))
	return t
}

// kinds are the towns of all kinds but the great ones.
func kinds() []func(r *rand.Rand) bread.Town {
	return []func(r *rand.Rand) bread.Town{feastTown, dryTown, rottenTown, anyTown}
}

// trials asks of so many towns of each kind.
func trials(t *testing.T, n int, ask func(r *rand.Rand, w bread.Town)) {
	t.Helper()
	r := rand.New(rand.NewPCG(9, 26))
	for _, make := range kinds() {
		for range n {
			askOf(t, r, make(r), ask)
		}
	}
	for range n / 20 {
		askOf(t, r, greatTown(r), ask)
	}
}

func askOf(t *testing.T, r *rand.Rand, w bread.Town, ask func(r *rand.Rand, w bread.Town)) {
	t.Helper()
	if e := bread.Check(w); e != api.OK {
		t.Fatal(w, "is not allowed:", e)
	}
	ask(r, w)
}

// class is 0 for Never, 1 for 0, 2 for other numbers, and 3 for Ever.
func class(lasts int) int {
	switch lasts {
	case never:
		return 0
	case 0:
		return 1
	case ever:
		return 3
	}
	return 2
}

// isMixed says whether there are so many of each class.
func isMixed(classes [4]int, most int) bool { return slices.Min(classes[:]) >= most }
