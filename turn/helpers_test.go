package turn_test

import (
	"math/rand/v2"
	"slices"
	"testing"

	"staddle/api"
	"staddle/turn"
)

const anywhere = turn.Anywhere

func list(numbers ...int) []int { return numbers }

func lists(all ...[]int) [][]int { return all }

func lot(sacks, in, to int) turn.Lot { return turn.Lot{Sacks: sacks, In: in, To: to} }

func to(lot, bin int) turn.Turning { return turn.Turning{Lot: lot, To: bin} }

func plan(all ...turn.Turning) []turn.Turning { return all }

func rounds(all ...[]turn.Turning) [][]turn.Turning { return all }

// three is the barn of the chapter's first example without its free bin, and with free ones of such sizes instead.
func three(free ...int) turn.Barn {
	return turn.Barn{Sizes: append(list(50, 50, 50), free...), Lots: []turn.Lot{lot(30, 0, 1), lot(20, 1, 0), lot(40, 2, 2)}}
}

// but returns the barn of the chapter's first example, changed.
func but(change func(b *turn.Barn)) turn.Barn {
	b := three(50)
	change(&b)
	return b
}

// light is a barn in which all bins hold each lot, with lots of one sack, each in the bin of its number.
func light(bins int, aims ...int) turn.Barn {
	b := turn.Barn{Sizes: slices.Repeat(list(9), bins)}
	for k, bin := range aims {
		b.Lots = append(b.Lots, lot(1, k, bin))
	}
	return b
}

func copyBarn(b turn.Barn) turn.Barn {
	return turn.Barn{Sizes: slices.Clone(b.Sizes), Lots: slices.Clone(b.Lots)}
}

func sameBarn(a, b turn.Barn) bool {
	return slices.Equal(a.Sizes, b.Sizes) && slices.Equal(a.Lots, b.Lots)
}

func sameLists(a, b [][]int) bool { return slices.EqualFunc(a, b, slices.Equal[[]int]) }

func sameRounds(a, b [][]turn.Turning) bool {
	return slices.EqualFunc(a, b, slices.Equal[[]turn.Turning])
}

func copyLists[T any](all [][]T) [][]T {
	var same [][]T
	for _, one := range all {
		same = append(same, slices.Clone(one))
	}
	return same
}

// in says in which bins the lots of a barn are.
func in(b turn.Barn) []int {
	var bins []int
	for _, l := range b.Lots {
		bins = append(bins, l.In)
	}
	return bins
}

// right says whether each lot that should be in a bin is there, if the lots are in such bins.
func right(b turn.Barn, bins []int) bool {
	for k, l := range b.Lots {
		if l.To >= 0 && l.To != bins[k] {
			return false
		}
	}
	return true
}

// lies are all ways in which the lots of a barn could lie in bins that hold them, no two in the same one.
func lies(b turn.Barn) [][]int {
	all := lists(nil)
	for _, l := range b.Lots {
		var more [][]int
		for _, bins := range all {
			for bin, size := range b.Sizes {
				if size >= l.Sacks && !slices.Contains(bins, bin) {
					more = append(more, append(slices.Clone(bins), bin))
				}
			}
		}
		all = more
	}
	return all
}

// moved are the lots that lie in another bin.
func moved(before, after []int) []int {
	var lots []int
	for k, bin := range before {
		if bin != after[k] {
			lots = append(lots, k)
		}
	}
	return lots
}

// isRound says whether one round leads from lots that lie in some bins to others, all of which hold them: each of at most so
// many lots is brought into a bin that was free.
func isRound(before, after []int, gangs int) bool {
	turned := 0
	for k, bin := range before {
		if bin == after[k] {
			continue
		}
		if turned++; slices.Contains(before, after[k]) {
			return false
		}
	}
	return turned > 0 && turned <= gangs
}

// far is more than any cost.
const far = 1 << 30

// edge is a round from one way in which lots lie to another one.
type edge struct{ from, to, cost int }

// edges are all rounds of a barn, between any ways in which its lots could lie.
func edges(all [][]int, gangs int, cost func(lots []int) int) []edge {
	var rounds []edge
	for i, before := range all {
		for j, after := range all {
			if isRound(before, after, gangs) {
				rounds = append(rounds, edge{from: i, to: j, cost: cost(moved(before, after))})
			}
		}
	}
	return rounds
}

// costs says at what cost each way in which the lots could lie is reached: all edges are gone through until none helps.
func costs(b turn.Barn, gangs int, cost func(lots []int) int) ([][]int, []int) {
	all := lies(b)
	at := make([]int, len(all))
	for i, bins := range all {
		if at[i] = far; slices.Equal(bins, in(b)) {
			at[i] = 0
		}
	}
	rounds := edges(all, gangs, cost)
	for helps := true; helps; {
		helps = false
		for _, r := range rounds {
			if at[r.from]+r.cost < at[r.to] {
				at[r.to], helps = at[r.from]+r.cost, true
			}
		}
	}
	return all, at
}

// cheapest says at what cost a barn is made right, or far if it cannot be.
func cheapest(b turn.Barn, gangs int, cost func(lots []int) int) int {
	all, at := costs(b, gangs, cost)
	least := far
	for i, bins := range all {
		if right(b, bins) {
			least = min(least, at[i])
		}
	}
	return least
}

func one([]int) int { return 1 }

// sacksOf says how many sacks lots have.
func sacksOf(b turn.Barn) func(lots []int) int {
	return func(lots []int) int {
		n := 0
		for _, k := range lots {
			n += b.Lots[k].Sacks
		}
		return n
	}
}

// mustTurn are the lots that must be turned, by the words of the chapter.
func mustTurn(b turn.Barn) []int {
	var lots []int
	for k, l := range b.Lots {
		is := l.To != anywhere && l.To != l.In
		for other, m := range b.Lots {
			is = is || l.To == anywhere && other != k && m.To == l.In
		}
		if is {
			lots = append(lots, k)
		}
	}
	return lots
}

// isRing says whether lots are a ring, by the words of the chapter.
func isRing(b turn.Barn, lots []int) bool {
	for i, k := range lots {
		next := lots[0]
		if i+1 < len(lots) {
			next = lots[i+1]
		}
		if slices.Contains(lots[:i], k) || b.Lots[k].To != b.Lots[next].In {
			return false
		}
	}
	return len(lots) >= 2
}

// ringsOf are all rings that begin with their least lot, in increasing order.
func ringsOf(b turn.Barn) [][]int {
	var rings [][]int
	var go1 func(lots []int)
	go1 = func(lots []int) {
		if isRing(b, lots) && slices.Min(lots) == lots[0] {
			rings = append(rings, lots)
		}
		for k := range b.Lots {
			if !slices.Contains(lots, k) {
				go1(append(slices.Clone(lots), k))
			}
		}
	}
	go1(nil)
	slices.SortFunc(rings, func(a, b []int) int { return a[0] - b[0] })
	return rings
}

// tightBarn is one whose bins hold but few of the lots of others.
func tightBarn(r *rand.Rand) turn.Barn {
	b := turn.Barn{}
	for range 1 + r.IntN(5) {
		b.Sizes = append(b.Sizes, r.IntN(7))
	}
	fill(r, &b, min(4, 1+r.IntN(len(b.Sizes))))
	return b
}

// wideBarn is one whose bins hold each lot; in some of them the lots change places with one another.
func wideBarn(r *rand.Rand) turn.Barn {
	b := turn.Barn{Sizes: slices.Repeat(list(5), 1+r.IntN(5))}
	fill(r, &b, min(4, r.IntN(len(b.Sizes)+1)))
	if bins := in(b); r.IntN(2) == 0 {
		for k, other := range r.Perm(len(bins)) {
			b.Lots[k].To = bins[other]
		}
	}
	return b
}

// fullBarn is one of lots about as great as their bins, few of which are free.
func fullBarn(r *rand.Rand) turn.Barn {
	b := turn.Barn{}
	crowd(r, &b, 4+r.IntN(2))
	return b
}

// crowd lays so many bins of few sizes into a barn, fills all but one or two, and brings most lots anywhere else.
func crowd(r *rand.Rand, b *turn.Barn, bins int) {
	sizes := 2 + r.IntN(3)
	for range bins {
		b.Sizes = append(b.Sizes, 1+r.IntN(sizes))
	}
	aims := r.Perm(bins)
	for _, bin := range r.Perm(bins)[:min(turn.MaxLots, bins-1-r.IntN(2))] {
		l := lot(max(1, b.Sizes[bin]-r.IntN(2)), bin, anywhere)
		if k := slices.IndexFunc(aims, func(aim int) bool { return b.Sizes[aim] >= l.Sacks }); k >= 0 && r.IntN(8) > 0 {
			l.To = aims[k]
			aims = slices.Delete(aims, k, k+1)
		}
		b.Lots = append(b.Lots, l)
	}
}

// looseBarn is one with many free bins, into which its lots should go in some of them.
func looseBarn(r *rand.Rand) turn.Barn {
	b := turn.Barn{}
	for range 6 {
		b.Sizes = append(b.Sizes, 2+r.IntN(3))
	}
	bins := r.Perm(6)
	aims := bins[3:]
	if r.IntN(2) == 0 {
		aims = r.Perm(6)
	}
	for k, bin := range bins[:3] {
		l := lot(1+r.IntN(3), bin, aims[k])
		l.Sacks = min(l.Sacks, b.Sizes[bin], b.Sizes[l.To])
		b.Lots = append(b.Lots, l)
	}
	return b
}

// stuckBarn is one that is not right and in which little can be turned.
func stuckBarn(r *rand.Rand) turn.Barn {
	for {
		b := tightBarn(r)
		if len(b.Lots) >= len(b.Sizes)-1 && !right(b, in(b)) {
			return b
		}
	}
}

// fill puts lots into a barn, and says where they should be, where there are bins for them.
func fill(r *rand.Rand, b *turn.Barn, lots int) {
	var aims []int
	for _, bin := range r.Perm(len(b.Sizes)) {
		if len(b.Lots) == lots || b.Sizes[bin] == 0 {
			continue
		}
		l := lot(1+r.IntN(b.Sizes[bin]), bin, anywhere)
		aim := r.IntN(len(b.Sizes))
		if r.IntN(5) > 0 && b.Sizes[aim] >= l.Sacks && !slices.Contains(aims, aim) {
			l.To = aim
			aims = append(aims, aim)
		}
		b.Lots = append(b.Lots, l)
	}
}

// kinds are the barns of all kinds.
func kinds() []func(r *rand.Rand) turn.Barn {
	return []func(r *rand.Rand) turn.Barn{tightBarn, wideBarn, stuckBarn, fullBarn, looseBarn}
}

// trials asks of so many barns of each kind.
func trials(t *testing.T, n int, ask func(r *rand.Rand, b turn.Barn)) {
	t.Helper()
	r := rand.New(rand.NewPCG(8, 20))
	for _, make := range kinds() {
		for range n {
			b := make(r)
			if e := turn.Check(b); e != api.OK {
				t.Fatal(b, "is not allowed:", e)
			}
			ask(r, b)
		}
	}
}

// canBe are the turnings that can be done if the lots are in such bins.
func canBe(b turn.Barn, bins []int) []turn.Turning {
	var all []turn.Turning
	for k, l := range b.Lots {
		for bin, size := range b.Sizes {
			if size >= l.Sacks && !slices.Contains(bins, bin) {
				all = append(all, to(k, bin))
			}
		}
	}
	return all
}

// somePlan is a plan of at most so many turnings.
func somePlan(r *rand.Rand, b turn.Barn, most int) []turn.Turning {
	var p []turn.Turning
	bins := in(b)
	for range r.IntN(most + 1) {
		can := canBe(b, bins)
		if len(can) == 0 {
			break
		}
		one := can[r.IntN(len(can))]
		bins[one.Lot] = one.To
		p = append(p, one)
	}
	return p
}

// someRounds are at most so many rounds of so many gangs.
func someRounds(r *rand.Rand, b turn.Barn, gangs, most int) [][]turn.Turning {
	var all [][]turn.Turning
	bins := in(b)
	for range r.IntN(most + 1) {
		var round []turn.Turning
		before := slices.Clone(bins)
		for _, one := range canBe(b, before) {
			goes := len(round) < gangs && r.IntN(2) == 0
			for _, other := range round {
				goes = goes && other.Lot != one.Lot && other.To != one.To
			}
			if goes {
				round = append(round, one)
				bins[one.Lot] = one.To
			}
		}
		all = append(all, round)
	}
	return all
}
