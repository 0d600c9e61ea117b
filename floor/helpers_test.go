package floor_test

import (
	"math/rand/v2"
	"slices"
	"testing"

	"staddle/api"
	"staddle/floor"
)

func list(n ...int) []int { return n }

func bin(has int, shares ...int) floor.Bin { return floor.Bin{Has: has, Shares: shares} }

func move(from, to, sacks int) floor.Turning {
	return floor.Turning{From: from, To: to, Sacks: sacks}
}

func rule(first, then int) floor.Rule { return floor.Rule{First: first, Then: then} }

func pay(from, to, much int) floor.Pay { return floor.Pay{From: from, To: to, Much: much} }

func pays(all ...floor.Pay) []floor.Pay { return all }

// barn is the floor of the chapter's examples, with rules.
func barn(rules ...floor.Rule) floor.Floor {
	return floor.Floor{
		Bears:    list(400, 300),
		Bins:     []floor.Bin{bin(60, 4, 0), bin(30, 2, 2), bin(0, 0, 4)},
		Turnings: []floor.Turning{move(0, 1, 40), move(1, 2, 30), move(floor.Outside, 0, 40)},
		Rules:    rules,
	}
}

// but returns the floor of the examples, in which turning 0 is done before turning 2, changed.
func but(change func(f *floor.Floor)) floor.Floor {
	f := barn(rule(0, 2))
	change(&f)
	return f
}

// gate is one bay with one bin, into which sacks are brought, or out of which they are taken if the number is less than 0.
func gate(bears, has int, sacks []int, rules ...floor.Rule) floor.Floor {
	f := floor.Floor{Bears: list(bears), Bins: []floor.Bin{bin(has, 4)}, Rules: rules}
	for _, n := range sacks {
		if n < 0 {
			f.Turnings = append(f.Turnings, move(0, floor.Outside, -n))
		} else {
			f.Turnings = append(f.Turnings, move(floor.Outside, 0, n))
		}
	}
	return f
}

// full is a floor with all that is allowed.
func full() floor.Floor {
	f := floor.Floor{Bears: list(4000, 4000, 4000, 4000), Bins: slices.Repeat([]floor.Bin{bin(300, 1, 1, 1, 1)}, 6)}
	f.Bins[5].Shares = list(4, 0, 0, 0)
	for k := range floor.MaxTurnings {
		f.Turnings = append(f.Turnings, move(floor.Outside, k%6, 300))
		f.Rules = append(f.Rules, rule(k/2, 4+k%4), rule(0, 1+k%7))
	}
	return f
}

func copyFloor(f floor.Floor) floor.Floor {
	c := floor.Floor{Bears: slices.Clone(f.Bears), Turnings: slices.Clone(f.Turnings), Rules: slices.Clone(f.Rules)}
	for _, b := range f.Bins {
		c.Bins = append(c.Bins, bin(b.Has, slices.Clone(b.Shares)...))
	}
	return c
}

func sameBin(a, b floor.Bin) bool { return a.Has == b.Has && slices.Equal(a.Shares, b.Shares) }

func sameFloor(a, b floor.Floor) bool {
	return slices.Equal(a.Bears, b.Bears) && slices.EqualFunc(a.Bins, b.Bins, sameBin) && slices.Equal(a.Turnings, b.Turnings) && slices.Equal(a.Rules, b.Rules)
}

func copyLoads(loads [][]int) [][]int {
	var all [][]int
	for _, l := range loads {
		all = append(all, slices.Clone(l))
	}
	return all
}

func sameLoads(a, b [][]int) bool { return slices.EqualFunc(a, b, slices.Equal[[]int]) }

// loadsOf says what lies on all bays at all times of an order, by moving the sacks.
func loadsOf(f floor.Floor, order []int) [][]int {
	var sacks []int
	for _, b := range f.Bins {
		sacks = append(sacks, b.Has)
	}
	all := [][]int{loadOf(f, sacks)}
	for _, k := range order {
		t := f.Turnings[k]
		if t.From != floor.Outside {
			sacks[t.From] -= t.Sacks
		}
		if t.To != floor.Outside {
			sacks[t.To] += t.Sacks
		}
		all = append(all, loadOf(f, sacks))
	}
	return all
}

func loadOf(f floor.Floor, sacks []int) []int {
	load := make([]int, len(f.Bears))
	for bay := range f.Bears {
		for k, n := range sacks {
			load[bay] += n * f.Bins[k].Shares[bay]
		}
	}
	return load
}

// marginOf says what the least of what bays bear is, less their loads.
func marginOf(f floor.Floor, loads [][]int) int {
	margin := f.Bears[0] - loads[0][0]
	for _, l := range loads {
		for bay, n := range l {
			margin = min(margin, f.Bears[bay]-n)
		}
	}
	return margin
}

// mostOf says what the greatest load of a bay is.
func mostOf(loads [][]int, bay int) int {
	most := loads[0][bay]
	for _, l := range loads {
		most = max(most, l[bay])
	}
	return most
}

// brokenOf says at which time a bay is overloaded first, and which one, and whether any is.
func brokenOf(f floor.Floor, loads [][]int) (time, bay int, breaks bool) {
	for time, l := range loads {
		for bay, n := range l {
			if n > f.Bears[bay] {
				return time, bay, true
			}
		}
	}
	return 0, 0, false
}

// isAhead says whether a turning is ahead of another one, word for word as the chapter does.
func isAhead(f floor.Floor, a, b int) bool {
	return slices.ContainsFunc(f.Rules, func(r floor.Rule) bool {
		return r.First == a && (r.Then == b || isAhead(f, r.Then, b))
	})
}

func aheadOf(f floor.Floor, b int) []int {
	var all []int
	for a := range f.Turnings {
		if isAhead(f, a, b) {
			all = append(all, a)
		}
	}
	return all
}

// isWhole says whether all that is ahead of one of a list is in it, too.
func isWhole(f floor.Floor, set []int) bool {
	for _, b := range set {
		for _, a := range aheadOf(f, b) {
			if !slices.Contains(set, a) {
				return false
			}
		}
	}
	return true
}

// heaviestOf says what the most is that a bay bears after any whole set.
func heaviestOf(f floor.Floor, bay int) int {
	most := loadsOf(f, nil)[0][bay]
	for bits := range 1 << len(f.Turnings) {
		var set []int
		for k := range f.Turnings {
			if bits>>k&1 == 1 {
				set = append(set, k)
			}
		}
		if isWhole(f, set) {
			most = max(most, loadsOf(f, set)[len(set)][bay])
		}
	}
	return most
}

// isAllowed says whether an order agrees with all rules.
func isAllowed(f floor.Floor, order []int) bool {
	for _, r := range f.Rules {
		if slices.Index(order, r.First) > slices.Index(order, r.Then) {
			return false
		}
	}
	return true
}

// permutations goes through all lists that have each number below n once, in lexicographic order.
func permutations(n int, do func(order []int)) {
	var more func(order []int)
	more = func(order []int) {
		if len(order) == n {
			do(slices.Clone(order))
		}
		for k := range n {
			if !slices.Contains(order, k) {
				more(append(order, k))
			}
		}
	}
	more(make([]int, 0, n))
}

// known is what is found of a floor by going through all orders.
type known struct {
	orders, keep, margin int
	safe, firsts, most   []int
	// before has of each turning whether it is before each other one in all orders that keep.
	before [floor.MaxTurnings][floor.MaxTurnings]bool
}

func look(f floor.Floor) known {
	k := known{most: make([]int, len(f.Bears))}
	for a := range k.before {
		for b := range k.before[a] {
			k.before[a][b] = true
		}
	}
	permutations(len(f.Turnings), func(order []int) {
		if isAllowed(f, order) {
			k.add(f, order)
		}
	})
	return k
}

// add takes an order that is allowed into what is known.
func (k *known) add(f floor.Floor, order []int) {
	loads := loadsOf(f, order)
	margin := marginOf(f, loads)
	if k.orders == 0 || margin > k.margin {
		k.margin = margin
	}
	k.orders++
	for bay := range f.Bears {
		k.most[bay] = max(k.most[bay], mostOf(loads, bay))
	}
	if margin < 0 {
		return
	}
	if k.keep == 0 {
		k.safe = order
	}
	k.keep++
	for i, a := range order {
		for _, b := range order[:i] {
			k.before[a][b] = false
		}
	}
	if len(order) > 0 && !slices.Contains(k.firsts, order[0]) {
		k.firsts = append(k.firsts, order[0])
	}
}

// holding says what payments bound for a bay, and whether they hold, word for word as the chapter does.
func holding(f floor.Floor, bay int, all []floor.Pay) (int, bool) {
	bound, holds := loadsOf(f, nil)[0][bay], true
	for k := range f.Turnings {
		only := loadsOf(f, list(k))
		adds := only[1][bay] - only[0][bay]
		paid, pays := 0, 0
		for _, p := range all {
			if p.From == k {
				paid += p.Much
			}
			if p.To == k {
				pays += p.Much
			}
		}
		bound += max(0, adds) - paid
		holds = holds && paid <= max(0, adds) && pays <= max(0, -adds)
	}
	return bound, holds
}

// someShares returns four quarters on so many bays.
func someShares(r *rand.Rand, bays int) []int {
	shares := make([]int, bays)
	for range floor.Quarters {
		shares[r.IntN(bays)]++
	}
	return shares
}

// addTurnings adds up to so many turnings to a floor that has bins, of up to so many sacks.
func addTurnings(r *rand.Rand, f *floor.Floor, turnings, sacks int) {
	var left []int
	for _, b := range f.Bins {
		left = append(left, b.Has)
	}
	for range turnings {
		from, to := r.IntN(len(f.Bins)+1)-1, r.IntN(len(f.Bins)+1)-1
		n := 1 + r.IntN(sacks)
		if from != floor.Outside {
			n = min(n, left[from])
		}
		if from == to || n == 0 {
			continue
		}
		if from != floor.Outside {
			left[from] -= n
		}
		f.Turnings = append(f.Turnings, move(from, to, n))
	}
}

// addRules adds so many rules to a floor, which agree with some order.
func addRules(r *rand.Rand, f *floor.Floor, rules int) {
	n := len(f.Turnings)
	if n < 2 {
		return
	}
	order := r.Perm(n)
	for range rules {
		i := r.IntN(n - 1)
		j := i + 1 + r.IntN(n-i-1)
		f.Rules = append(f.Rules, rule(order[i], order[j]))
	}
}

// someFloor returns a floor of any kind, with up to so many turnings.
func someFloor(r *rand.Rand, turnings int) floor.Floor {
	var f floor.Floor
	for range 1 + r.IntN(floor.MaxBays) {
		f.Bears = append(f.Bears, r.IntN(1500))
	}
	for range r.IntN(floor.MaxBins + 1) {
		f.Bins = append(f.Bins, bin(r.IntN(floor.MaxSacks+1), someShares(r, len(f.Bears))...))
	}
	addTurnings(r, &f, turnings, floor.MaxSacks)
	addRules(r, &f, r.IntN(4))
	return f
}

// anyFloor returns a floor of any kind.
func anyFloor(r *rand.Rand) floor.Floor { return someFloor(r, 6) }

// tightFloor returns a floor that some order just about keeps, or just not.
func tightFloor(r *rand.Rand) floor.Floor {
	f := floor.Floor{Bears: make([]int, 1+r.IntN(3))}
	for range 2 + r.IntN(3) {
		f.Bins = append(f.Bins, bin(20+r.IntN(60), someShares(r, len(f.Bears))...))
	}
	addTurnings(r, &f, 6, 30)
	addRules(r, &f, r.IntN(3))
	for {
		order := r.Perm(len(f.Turnings))
		if !isAllowed(f, order) {
			continue
		}
		loads := loadsOf(f, order)
		for bay := range f.Bears {
			f.Bears[bay] = mostOf(loads, bay)
		}
		if n := &f.Bears[r.IntN(len(f.Bears))]; r.IntN(3) == 0 && *n > 0 {
			*n--
		}
		return f
	}
}

// outAndIn returns a floor of one bay with one bin, out of which sacks are taken before others are brought, with so many
// turnings and up to so many rules.
func outAndIn(r *rand.Rand, turnings, rules int) floor.Floor {
	var sacks, outs, ins []int
	for k := range turnings {
		n := 1 + r.IntN(12)
		if r.IntN(2) == 0 {
			outs = append(outs, k)
			n = -n
		} else {
			ins = append(ins, k)
		}
		sacks = append(sacks, n)
	}
	f := gate(300+r.IntN(250), 80+r.IntN(40), sacks)
	if len(outs) > 0 && len(ins) > 0 {
		for range r.IntN(rules + 1) {
			f.Rules = append(f.Rules, rule(outs[r.IntN(len(outs))], ins[r.IntN(len(ins))]))
		}
	}
	return f
}

// payingFloor returns a floor on which turnings that lessen the load are ahead of others.
func payingFloor(r *rand.Rand) floor.Floor { return outAndIn(r, 2+r.IntN(5), 9) }

// kinds are all kinds of floors.
func kinds() []func(r *rand.Rand) floor.Floor {
	return []func(r *rand.Rand) floor.Floor{anyFloor, tightFloor, payingFloor}
}

// trials calls a function with floors of one kind, always the same ones.
func trials(t *testing.T, n int, make func(r *rand.Rand) floor.Floor, try func(r *rand.Rand, f floor.Floor)) {
	t.Helper()
	r := rand.New(rand.NewPCG(31, 37))
	for range n {
		f := make(r)
		if e := floor.Check(f); e != api.OK {
			t.Fatal(f, "should be allowed, but has error", e)
		}
		try(r, f)
		if t.Failed() {
			return
		}
	}
}

// searched calls a function with floors of all kinds, with what is known of each of them.
func searched(t *testing.T, try func(r *rand.Rand, f floor.Floor, k known)) {
	t.Helper()
	for _, make := range kinds() {
		trials(t, 300, make, func(r *rand.Rand, f floor.Floor) { try(r, f, look(f)) })
	}
}

// someOrder returns an order that is allowed.
func someOrder(r *rand.Rand, f floor.Floor) []int {
	var order []int
	for range f.Turnings {
		var nexts []int
		for k := range f.Turnings {
			if !slices.Contains(order, k) && isWhole(f, append(slices.Clone(order), k)) {
				nexts = append(nexts, k)
			}
		}
		order = append(order, nexts[r.IntN(len(nexts))])
	}
	return order
}

// somePays returns payments whose turnings are in order, but which hold just if there are few of them.
func somePays(r *rand.Rand, f floor.Floor) []floor.Pay {
	var all []floor.Pay
	for from := range f.Turnings {
		for _, to := range aheadOf(f, from) {
			if r.IntN(4) == 0 {
				all = append(all, pay(from, to, 1+r.IntN(16)))
			}
		}
	}
	r.Shuffle(len(all), func(i, j int) { all[i], all[j] = all[j], all[i] })
	return all
}
