package stock_test

import (
	"math/rand/v2"
	"slices"
	"testing"

	"staddle/api"
	"staddle/stock"
)

func span(lo, hi int) api.Span { return api.Span{Lo: lo, Hi: hi} }

func bin(holds, lo, hi int) stock.Bin { return stock.Bin{Holds: holds, First: span(lo, hi)} }

func move(day, from, to, lo, hi int) stock.Move {
	return stock.Move{Day: day, From: from, To: to, Sacks: span(lo, hi)}
}

func level(day, bin, lo, hi int) stock.Level {
	return stock.Level{Day: day, Bin: bin, Sacks: span(lo, hi)}
}

func cells(all ...stock.Cell) []stock.Cell { return all }

func cell(bin, day int) stock.Cell { return stock.Cell{Bin: bin, Day: day} }

func amounts(first, moved []int) stock.Amounts { return stock.Amounts{First: first, Moved: moved} }

// barn is the yard of the chapter's examples, with those of its levels that are named, in this order.
func barn(levels ...int) stock.Yard {
	all := []stock.Level{level(2, 1, 20, 25), level(2, 0, 10, 24), level(2, 1, 30, 40)}
	y := stock.Yard{
		Days:  2,
		Bins:  []stock.Bin{bin(100, 20, 30), bin(50, 0, 0)},
		Moves: []stock.Move{move(0, stock.Outside, 0, 40, 60), move(1, 0, 1, 10, 40), move(1, 1, stock.Outside, 5, 10)},
	}
	for _, l := range levels {
		y.Levels = append(y.Levels, all[l])
	}
	return y
}

// measured is the yard of the chapter's examples with other levels.
func measured(levels ...stock.Level) stock.Yard {
	y := barn()
	y.Levels = levels
	return y
}

// copyYard returns a yard that shares no memory with the one given.
func copyYard(y stock.Yard) stock.Yard {
	y.Bins, y.Moves, y.Levels = slices.Clone(y.Bins), slices.Clone(y.Moves), slices.Clone(y.Levels)
	return y
}

func sameYard(a, b stock.Yard) bool {
	return a.Days == b.Days && slices.Equal(a.Bins, b.Bins) && slices.Equal(a.Moves, b.Moves) && slices.Equal(a.Levels, b.Levels)
}

func sameRows(a, b [][]int) bool { return slices.EqualFunc(a, b, slices.Equal[[]int]) }

func isIn(n int, s api.Span) bool { return s.Lo <= n && n <= s.Hi }

// rows returns the contents of each bin at each time, move by move.
func rows(y stock.Yard, a stock.Amounts) [][]int {
	all := make([][]int, len(y.Bins))
	for b := range all {
		has := a.First[b]
		all[b] = append(all[b], has)
		for day := 0; day < y.Days; day++ {
			for i, m := range y.Moves {
				if m.Day == day && m.To == b {
					has += a.Moved[i]
				}
				if m.Day == day && m.From == b {
					has -= a.Moved[i]
				}
			}
			all[b] = append(all[b], has)
		}
	}
	return all
}

// broken says whether amounts fit but for levels, and which levels (a bit for each of them) they do not keep.
func broken(y stock.Yard, a stock.Amounts) (fits bool, levels int) {
	all := rows(y, a)
	for b, row := range all {
		for _, n := range row {
			if !isIn(n, span(0, y.Bins[b].Holds)) {
				return false, 0
			}
		}
		if !isIn(a.First[b], y.Bins[b].First) {
			return false, 0
		}
	}
	for i, m := range y.Moves {
		if !isIn(a.Moved[i], m.Sacks) {
			return false, 0
		}
	}
	for i, l := range y.Levels {
		if !isIn(all[l.Bin][l.Day], l.Sacks) {
			levels |= 1 << i
		}
	}
	return true, levels
}

// known is what is found of a yard by going through all amounts.
type known struct {
	// misses has each set of levels that are all that some amounts do not keep.
	misses map[int]bool
	bins   [][]api.Span
	moves  []api.Span
	whole  []api.Span
	// has tells whether a bin can have a number of sacks at a time.
	has map[[3]int]bool
}

// widen returns a span with a number more; the first one is all that it has.
func widen(s api.Span, n int, first bool) api.Span {
	if first {
		return span(n, n)
	}
	return span(min(s.Lo, n), max(s.Hi, n))
}

func look(y stock.Yard) known {
	k := known{misses: map[int]bool{}, has: map[[3]int]bool{}}
	for range y.Bins {
		k.bins = append(k.bins, make([]api.Span, y.Days+1))
	}
	k.moves, k.whole = make([]api.Span, len(y.Moves)), make([]api.Span, y.Days+1)
	var spans []api.Span
	for _, b := range y.Bins {
		spans = append(spans, b.First)
	}
	for _, m := range y.Moves {
		spans = append(spans, m.Sacks)
	}
	numbers := make([]int, len(spans))
	var try func(i int)
	try = func(i int) {
		if i == len(spans) {
			k.add(y, amounts(numbers[:len(y.Bins)], numbers[len(y.Bins):]))
			return
		}
		for n := spans[i].Lo; n <= spans[i].Hi; n++ {
			numbers[i] = n
			try(i + 1)
		}
	}
	try(0)
	return k
}

// add takes amounts into what is known, if they fit.
func (k *known) add(y stock.Yard, a stock.Amounts) {
	fits, set := broken(y, a)
	if !fits {
		return
	}
	first := !k.misses[0]
	k.misses[set] = true
	if set != 0 {
		return
	}
	sums := make([]int, y.Days+1)
	for b, row := range rows(y, a) {
		for time, n := range row {
			k.bins[b][time] = widen(k.bins[b][time], n, first)
			k.has[[3]int{b, time, n}] = true
			sums[time] += n
		}
	}
	for time, n := range sums {
		k.whole[time] = widen(k.whole[time], n, first)
	}
	for i, n := range a.Moved {
		k.moves[i] = widen(k.moves[i], n, first)
	}
}

// fits says whether some amounts do.
func (k *known) fits() bool { return k.misses[0] }

func setOf(list []int) int {
	set := 0
	for _, i := range list {
		set |= 1 << i
	}
	return set
}

func (k *known) agree(levels int) bool {
	for set := range k.misses {
		if set&levels == 0 {
			return true
		}
	}
	return false
}

// fewest returns the first of the shortest lists of n levels that are as they are asked to be, and whether there is one.
func fewest(n int, is func(set int) bool) ([]int, bool) {
	var best []int
	found := false
	for set := range 1 << n {
		var list []int
		for i := range n {
			if set>>i&1 == 1 {
				list = append(list, i)
			}
		}
		if !is(set) {
			continue
		}
		if !found || len(list) < len(best) || len(list) == len(best) && slices.Compare(list, best) < 0 {
			best, found = list, true
		}
	}
	return best, found
}

// flow is grain that goes from a cell to another, or from or to outside; a cell on no day of the yard is outside, too.
type flow struct {
	from, to stock.Cell
	bounds   api.Span
}

// flows returns all flows of a yard, as the chapter names them.
func flows(y stock.Yard) []flow {
	var all []flow
	for _, m := range y.Moves {
		all = append(all, flow{cell(m.From, m.Day), cell(m.To, m.Day), m.Sacks})
	}
	for b, x := range y.Bins {
		for time := 0; time <= y.Days; time++ {
			s := span(0, x.Holds)
			if time == 0 {
				s = span(max(s.Lo, x.First.Lo), min(s.Hi, x.First.Hi))
			}
			for _, l := range y.Levels {
				if l.Bin == b && l.Day == time {
					s = span(max(s.Lo, l.Sacks.Lo), min(s.Hi, l.Sacks.Hi))
				}
			}
			all = append(all, flow{cell(b, time-1), cell(b, time), s})
		}
	}
	return all
}

// holdsBy returns by how much a proof holds, less than 1 if it does not.
func holdsBy(y stock.Yard, p stock.Proof) int {
	in, out := span(0, 0), span(0, 0)
	widest := 0
	for _, f := range flows(y) {
		widest = max(widest, f.bounds.Lo-f.bounds.Hi)
		leaves, comes := slices.Contains(p.Cells, f.from), slices.Contains(p.Cells, f.to)
		if comes && !leaves {
			in = span(in.Lo+f.bounds.Lo, in.Hi+f.bounds.Hi)
		}
		if leaves && !comes {
			out = span(out.Lo+f.bounds.Lo, out.Hi+f.bounds.Hi)
		}
	}
	switch {
	case len(p.Cells) == 0:
		return widest
	case p.Out:
		return out.Lo - in.Hi
	}
	return in.Lo - out.Hi
}

// someSpan returns a span of at most so many numbers, up to a greatest one.
func someSpan(r *rand.Rand, most, numbers int) api.Span {
	lo := r.IntN(most + 1)
	return span(lo, min(most, lo+r.IntN(numbers)))
}

// someMove returns a move that is allowed in a yard.
func someMove(r *rand.Rand, y stock.Yard, s api.Span) stock.Move {
	from := r.IntN(len(y.Bins)+1) - 1
	to := r.IntN(len(y.Bins)) - 1
	if to >= from {
		to++
	}
	return stock.Move{Day: r.IntN(y.Days), From: from, To: to, Sacks: s}
}

// someLevel returns a level that is allowed in a yard.
func someLevel(r *rand.Rand, y stock.Yard, s api.Span) stock.Level {
	return stock.Level{Day: r.IntN(y.Days + 1), Bin: r.IntN(len(y.Bins)), Sacks: s}
}

// someAmounts returns amounts within the spans of bins and moves, which need not fit.
func someAmounts(r *rand.Rand, y stock.Yard) stock.Amounts {
	var a stock.Amounts
	for _, b := range y.Bins {
		a.First = append(a.First, b.First.Lo+r.IntN(b.First.Hi-b.First.Lo+1))
	}
	for _, m := range y.Moves {
		a.Moved = append(a.Moved, m.Sacks.Lo+r.IntN(m.Sacks.Hi-m.Sacks.Lo+1))
	}
	return a
}

// nearLevel returns a level that contents differ from by less than so many sacks, or keep.
func nearLevel(r *rand.Rand, y stock.Yard, contents [][]int, far, width int) stock.Level {
	l := someLevel(r, y, api.Span{})
	n := contents[l.Bin][l.Day] + r.IntN(2*far-1) - far + 1
	n = max(0, min(stock.MaxSacks, n))
	l.Sacks = span(max(0, n-r.IntN(width)), min(stock.MaxSacks, n+r.IntN(width)))
	return l
}

// smallYard returns a yard of few amounts, all of which can be gone through.
func smallYard(r *rand.Rand) stock.Yard {
	y := stock.Yard{Days: 1 + r.IntN(3)}
	for range 1 + r.IntN(3) {
		y.Bins = append(y.Bins, stock.Bin{Holds: 7 + r.IntN(9), First: someSpan(r, 8, 4)})
	}
	for range r.IntN(5) {
		y.Moves = append(y.Moves, someMove(r, y, someSpan(r, 4, 5)))
	}
	contents := rows(y, someAmounts(r, y))
	far := 1 + r.IntN(4)
	for range r.IntN(7) {
		y.Levels = append(y.Levels, nearLevel(r, y, contents, far, 3))
	}
	return y
}

// bigYard returns a yard with up to all that is allowed, whose levels often agree: they are near what some amounts give.
func bigYard(r *rand.Rand) stock.Yard {
	y := stock.Yard{Days: 1 + r.IntN(stock.MaxDays)}
	for range 1 + r.IntN(stock.MaxBins) {
		y.Bins = append(y.Bins, stock.Bin{Holds: 150 + r.IntN(151), First: someSpan(r, 150, 100)})
	}
	for range r.IntN(stock.MaxMoves + 1) {
		y.Moves = append(y.Moves, someMove(r, y, someSpan(r, 60, 40)))
	}
	contents := rows(y, someAmounts(r, y))
	for range r.IntN(stock.MaxLevels + 1) {
		y.Levels = append(y.Levels, nearLevel(r, y, contents, 2, 30))
	}
	return y
}

// trials calls a function with yards of one sort, always the same ones.
func trials(t *testing.T, n int, make func(r *rand.Rand) stock.Yard, try func(r *rand.Rand, y stock.Yard)) {
	t.Helper()
	r := rand.New(rand.NewPCG(13, 17))
	for range n {
		y := make(r)
		if e := stock.Check(y); e != api.OK {
			t.Fatal(y, "should be allowed, but has error", e)
		}
		try(r, y)
		if t.Failed() {
			return
		}
	}
}
