package rod_test

import (
	"math/rand/v2"
	"slices"
	"testing"

	"staddle/api"
	"staddle/rod"
)

func span(lo, hi int) api.Span { return api.Span{Lo: lo, Hi: hi} }

func cell(col, row int) rod.Cell { return rod.Cell{Col: col, Row: row} }

func cells(all ...rod.Cell) []rod.Cell { return all }

func put(col, row, reach, shows int) rod.Rod {
	return rod.Rod{Tip: cell(col, row), Range: reach, Shows: shows}
}

// bin is one of so many columns and rows, with rods.
func bin(cols, rows int, rods ...rod.Rod) rod.Bin {
	return rod.Bin{Cols: cols, Rows: rows, Rods: rods}
}

// barn is the bin of the chapter's examples, with those of its rods that are named, in this order.
func barn(rods ...int) rod.Bin {
	all := []rod.Rod{put(1, 1, 2, 3), put(3, 0, 1, 0), put(0, 2, 1, 4), put(0, 2, 0, 0)}
	b := bin(4, 3)
	for _, k := range rods {
		b.Rods = append(b.Rods, all[k])
	}
	return b
}

// full is a bin with all that is allowed.
func full() rod.Bin {
	b := bin(rod.MaxSide, rod.MaxSide)
	for k := range rod.MaxRods {
		b.Rods = append(b.Rods, put(k%5, 4-k/2, rod.MaxRange, rod.MaxHeat))
	}
	return b
}

// copyBin returns a bin that shares no memory with the one given.
func copyBin(b rod.Bin) rod.Bin {
	b.Rods = slices.Clone(b.Rods)
	return b
}

func sameBin(a, b rod.Bin) bool {
	return a.Cols == b.Cols && a.Rows == b.Rows && slices.Equal(a.Rods, b.Rods)
}

// allCells returns the cells of a bin in their order: by row, then by column.
func allCells(b rod.Bin) []rod.Cell {
	var all []rod.Cell
	for i := 0; i < b.Cols*b.Rows; i++ {
		all = append(all, cell(i%b.Cols, i/b.Cols))
	}
	return all
}

// far is the distance of two cells.
func far(c, d rod.Cell) int {
	n := 0
	for _, m := range []int{c.Col - d.Col, c.Row - d.Row} {
		if m < 0 {
			m = -m
		}
		n += m
	}
	return n
}

// felt says what a rod feels, word for word as the chapter does.
func felt(b rod.Bin, heats []int, tip rod.Cell, reach int) int {
	most := 0
	for i, c := range allCells(b) {
		if n := far(tip, c); n <= reach && heats[i]-n > most {
			most = heats[i] - n
		}
	}
	return most
}

// kept says which rods feel what they show, a bit for each of them.
func kept(b rod.Bin, heats []int) int {
	set := 0
	for k, r := range b.Rods {
		if felt(b, heats, r.Tip, r.Range) == r.Shows {
			set |= 1 << k
		}
	}
	return set
}

func fit(b rod.Bin, heats []int) bool { return kept(b, heats) == 1<<len(b.Rods)-1 }

// known is what is found of a bin by going through all heats.
type known struct {
	// sets has each set of rods that are all that feel what they show, of some heats.
	sets        map[int]bool
	most, least []int
	// fewest is the least number of cells that are warm.
	fewest   int
	explains [][]bool
	// feels has all numbers that a rod feels, by its tip and its Range.
	feels map[[2]int]map[int]bool
}

func (k *known) fits() bool { return k.most != nil }

func (k *known) agree(rods int) bool {
	for set := range k.sets {
		if set&rods == rods {
			return true
		}
	}
	return false
}

// look goes through all heats of a bin, which has just a few cells.
func look(b rod.Bin) known {
	n := b.Cols * b.Rows
	k := known{sets: map[int]bool{}, feels: map[[2]int]map[int]bool{}}
	heats := make([]int, n)
	for {
		set := kept(b, heats)
		k.sets[set] = true
		if set == 1<<len(b.Rods)-1 {
			k.add(b, heats)
		}
		i := 0
		for i < n && heats[i] == rod.MaxHeat {
			heats[i] = 0
			i++
		}
		if i == n {
			return k
		}
		heats[i]++
	}
}

// add takes heats that fit into what is known.
func (k *known) add(b rod.Bin, heats []int) {
	if !k.fits() {
		k.most, k.least, k.fewest = slices.Clone(heats), slices.Clone(heats), len(heats)
		k.explains = make([][]bool, len(heats))
		for i := range heats {
			k.explains[i] = make([]bool, len(b.Rods))
		}
	}
	warm := 0
	for i, c := range allCells(b) {
		if heats[i] > 0 {
			warm++
		}
		k.most[i], k.least[i] = max(k.most[i], heats[i]), min(k.least[i], heats[i])
		for j, r := range b.Rods {
			if r.Shows > 0 && far(c, r.Tip) <= r.Range && heats[i]-far(c, r.Tip) == r.Shows {
				k.explains[i][j] = true
			}
		}
		for reach := range rod.MaxRange + 1 {
			at := [2]int{i, reach}
			if k.feels[at] == nil {
				k.feels[at] = map[int]bool{}
			}
			k.feels[at][felt(b, heats, c, reach)] = true
		}
	}
	k.fewest = min(k.fewest, warm)
}

// isApart says whether no cell explains two of the rods of a set, each of which shows more than 0.
func (k *known) isApart(b rod.Bin, set int) bool {
	for j, r := range b.Rods {
		if set>>j&1 == 1 && r.Shows == 0 {
			return false
		}
	}
	for _, rods := range k.explains {
		n := 0
		for j, is := range rods {
			if is && set>>j&1 == 1 {
				n++
			}
		}
		if n > 1 {
			return false
		}
	}
	return true
}

// reckon finds the same as look but of greater bins, by what the chapter says follows: if heats fit, those with the
// greatest heats fit, and these are bounded by the rods that reach them. What is felt is left out.
func reckon(b rod.Bin) known {
	k := known{sets: map[int]bool{}}
	all := 1<<len(b.Rods) - 1
	for set := range all + 1 {
		if set&^kept(b, bounded(b, set)) == 0 {
			k.sets[set] = true
		}
	}
	if !k.sets[all] {
		return k
	}
	k.most = bounded(b, all)
	fewest := map[int]int{0: 0}
	for i, c := range allCells(b) {
		lower := slices.Clone(k.most)
		lower[i] = 0
		k.least = append(k.least, 0)
		if !fit(b, lower) {
			k.least[i] = k.most[i]
		}
		rods, mask := make([]bool, len(b.Rods)), 0
		for j, r := range b.Rods {
			if r.Shows > 0 && far(c, r.Tip) <= r.Range && k.most[i] == r.Shows+far(c, r.Tip) {
				rods[j] = true
				mask |= 1 << j
			}
		}
		k.explains = append(k.explains, rods)
		for set := range all + 1 {
			if n, ok := fewest[set]; ok {
				if m, ok := fewest[set|mask]; !ok || m > n+1 {
					fewest[set|mask] = n + 1
				}
			}
		}
	}
	shown := 0
	for j, r := range b.Rods {
		if r.Shows > 0 {
			shown |= 1 << j
		}
	}
	k.fewest = fewest[shown]
	return k
}

// bounded returns for each cell the least number by which a rod of a set bounds its heat.
func bounded(b rod.Bin, set int) []int {
	var most []int
	for _, c := range allCells(b) {
		n := rod.MaxHeat
		for j, r := range b.Rods {
			if set>>j&1 == 1 && far(c, r.Tip) <= r.Range {
				n = min(n, r.Shows+far(c, r.Tip))
			}
		}
		most = append(most, n)
	}
	return most
}

// sizeOf returns how many rods a set has, listOf which ones.
func sizeOf(set int) int { return len(listOf(set)) }

func listOf(set int) []int {
	var list []int
	for j := 0; set>>j > 0; j++ {
		if set>>j&1 == 1 {
			list = append(list, j)
		}
	}
	return list
}

func setOf(list []int) int {
	set := 0
	for _, j := range list {
		set |= 1 << j
	}
	return set
}

// fewest returns the first of the shortest lists of n rods that are as they are asked to be, and whether there is one.
func fewest(n int, is func(set int) bool) ([]int, bool) {
	var best []int
	found := false
	for set := range 1 << n {
		list := listOf(set)
		if is(set) && (!found || len(list) < len(best) || len(list) == len(best) && slices.Compare(list, best) < 0) {
			best, found = list, true
		}
	}
	return best, found
}

// most returns the first of the longest lists of n rods that are as they are asked to be.
func most(n int, is func(set int) bool) []int {
	var best []int
	for set := range 1 << n {
		list := listOf(set)
		if is(set) && (len(list) > len(best) || len(list) == len(best) && slices.Compare(list, best) < 0) {
			best = list
		}
	}
	return best
}

// someHeats returns heats for a bin, of which many are 0.
func someHeats(r *rand.Rand, b rod.Bin) []int {
	var heats []int
	for range b.Cols * b.Rows {
		heats = append(heats, max(0, r.IntN(rod.MaxHeat+6)-5))
	}
	return heats
}

// someRods puts rods into a bin, which show what they feel of some heats, but for those that are wrong.
func someRods(r *rand.Rand, b rod.Bin, rods, wrong int) rod.Bin {
	heats := someHeats(r, b)
	for range rods {
		x := rod.Rod{Tip: cell(r.IntN(b.Cols), r.IntN(b.Rows)), Range: r.IntN(rod.MaxRange + 1)}
		x.Shows = felt(b, heats, x.Tip, x.Range)
		b.Rods = append(b.Rods, x)
	}
	for range min(wrong, rods) {
		x := &b.Rods[r.IntN(rods)]
		x.Shows = max(0, min(rod.MaxHeat, x.Shows+r.IntN(7)-3))
	}
	return b
}

// smallBin returns a bin of up to 4 cells, all of whose heats can be gone through.
func smallBin(r *rand.Rand) rod.Bin {
	b := bin(1+r.IntN(4), 1)
	switch {
	case r.IntN(3) == 0:
		b = bin(2, 2)
	case r.IntN(2) == 0:
		b.Cols, b.Rows = 1, b.Cols
	}
	return someRods(r, b, r.IntN(7), r.IntN(4))
}

// longBin returns a bin of 5 cells.
func longBin(r *rand.Rand) rod.Bin {
	b := bin(5, 1)
	if r.IntN(2) == 0 {
		b = bin(1, 5)
	}
	return someRods(r, b, 2+r.IntN(5), r.IntN(3))
}

// bigBin returns a bin with up to all that is allowed.
func bigBin(r *rand.Rand) rod.Bin {
	return someRods(r, bin(1+r.IntN(rod.MaxSide), 1+r.IntN(rod.MaxSide)), r.IntN(rod.MaxRods+1), r.IntN(3))
}

// coolBin returns a bin of which most cells are cool, so that it often takes many rods to clash.
func coolBin(r *rand.Rand) rod.Bin {
	b := bin(1+r.IntN(5), 1+r.IntN(3))
	for range 1 + r.IntN(2) {
		b.Rods = append(b.Rods, rod.Rod{Tip: cell(r.IntN(b.Cols), r.IntN(b.Rows)), Range: 1 + r.IntN(2), Shows: 2 + r.IntN(2)})
	}
	all := allCells(b)
	for _, i := range r.Perm(len(all)) {
		if len(b.Rods) < rod.MaxRods {
			b.Rods = append(b.Rods, rod.Rod{Tip: all[i], Shows: r.IntN(3)})
		}
	}
	r.Shuffle(len(b.Rods), func(i, j int) { b.Rods[i], b.Rods[j] = b.Rods[j], b.Rods[i] })
	return b
}

// trials calls a function with bins of one sort, always the same ones.
func trials(t *testing.T, n int, make func(r *rand.Rand) rod.Bin, try func(r *rand.Rand, b rod.Bin)) {
	t.Helper()
	r := rand.New(rand.NewPCG(19, 23))
	for range n {
		b := make(r)
		if e := rod.Check(b); e != api.OK {
			t.Fatal(b, "should be allowed, but has error", e)
		}
		try(r, b)
		if t.Failed() {
			return
		}
	}
}

// searched calls a function with bins of all sorts, with what is known of each of them.
func searched(t *testing.T, try func(r *rand.Rand, b rod.Bin, k known)) {
	t.Helper()
	trials(t, 250, smallBin, func(r *rand.Rand, b rod.Bin) { try(r, b, look(b)) })
	trials(t, 8, longBin, func(r *rand.Rand, b rod.Bin) { try(r, b, look(b)) })
	trials(t, 500, bigBin, func(r *rand.Rand, b rod.Bin) { try(r, b, reckon(b)) })
	trials(t, 200, coolBin, func(r *rand.Rand, b rod.Bin) { try(r, b, reckon(b)) })
}
