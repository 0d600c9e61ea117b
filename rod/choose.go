package rod

import "slices"

// share reports whether two lists of cells have one that is the same.
func share(a, b []Cell) bool {
	return slices.ContainsFunc(a, func(c Cell) bool { return slices.Contains(b, c) })
}

// fewest returns as few cells as can be of which each of some lists, none of them empty, has one. At most there are as many
// cells as lists.
func fewest(wanted [][]Cell) []Cell {
	for size := range len(wanted) + 1 {
		if chosen, ok := pick(wanted, size); ok {
			return chosen
		}
	}
	return nil
}

// pick returns up to so many cells of which each list has one, and whether there are such cells. One cell of the first
// list that has none yet must be chosen, whatever else is.
func pick(wanted [][]Cell, size int) ([]Cell, bool) {
	var chosen []Cell
	var more func() bool
	more = func() bool {
		first := slices.IndexFunc(wanted, func(list []Cell) bool { return !share(chosen, list) })
		if first < 0 {
			return true
		}
		if len(chosen) == size {
			return false
		}
		for _, c := range wanted[first] {
			chosen = append(chosen, c)
			if more() {
				return true
			}
			chosen = chosen[:len(chosen)-1]
		}
		return false
	}
	ok := more()
	return chosen, ok
}

// scattered returns the numbers of as many lists as can be any two of which share no cell, in increasing order, the
// first such numbers in lexicographic order.
func scattered(all [][]Cell) []int {
	var best []int
	var choose func(list []int, from int)
	choose = func(list []int, from int) {
		if len(list) > len(best) {
			best = list
		}
		// As many as the best ones would come later than these.
		for i := from; len(list)+len(all)-i > len(best); i++ {
			if every(list, func(k int) bool { return !share(all[k], all[i]) }) {
				choose(withOneMore(list, i), i+1)
			}
		}
	}
	choose(nil, 0)
	return best
}
