package weevil

import (
	"slices"

	"staddle/api"
)

// taken has for each gap from which bin to which one ways go through it, or Gap{} if none does.
type taken [MaxGaps]Gap

// step is the gap by which a bin was found, with the bin before it.
type step struct{ gap, before int }

// turn lets a way go through a gap. If another one goes through it the other way round neither of them does then, as each can
// go on where the other one would have.
func (t *taken) turn(gap, from, to int) {
	if t[gap] == (Gap{A: to, B: from}) {
		t[gap] = Gap{}
		return
	}
	t[gap] = Gap{A: from, B: to}
}

// addWay takes gaps for one way more, and reports whether there is one.
func (w houseAtWork) addWay(t *taken) bool {
	var by [MaxBins]step
	found, end := w.from, Never
	queue := w.from.list()
search:
	for len(queue) > 0 {
		bin := queue[0]
		queue = queue[1:]
		for gap, next := range w.gapsOut(bin) {
			if found.has(next) || t[gap] == (Gap{A: bin, B: next}) {
				continue
			}
			found = found.with(next)
			by[next] = step{gap: gap, before: bin}
			if w.keep.has(next) {
				end = next
				break search
			}
			queue = append(queue, next)
		}
	}
	if end == Never {
		return false
	}
	for bin := end; !w.from.has(bin); bin = by[bin].before {
		t.turn(by[bin].gap, by[bin].before, bin)
	}
	return true
}

// follow returns the way that begins with a gap, which is no longer taken then. Into each bin between the lists as many ways
// lead as lead out of it, so that it goes on until it is in the second list.
func (w houseAtWork) follow(t *taken, gap int) []int {
	way := []int{gap}
	bin := t[gap].B
	t[gap] = Gap{}
	for !w.keep.has(bin) {
		next := slices.IndexFunc(t[:], func(g Gap) bool { return g != Gap{} && g.A == bin })
		way = append(way, next)
		bin = t[next].B
		t[next] = Gap{}
	}
	return way
}

// ways returns as many ways as can be that are apart.
func (w houseAtWork) ways() [][]int {
	var t taken
	for w.addWay(&t) {
	}
	var ways [][]int
	for gap := range w.Gaps {
		if t[gap] != (Gap{}) && w.from.has(t[gap].A) {
			ways = append(ways, w.follow(&t, gap))
		}
	}
	return ways
}

// isWay reports whether a list of gaps is a way. Where both bins of its first gap are in the first list, it can begin in each
// of them. As no bin is in both lists, the empty list is none.
func (w houseAtWork) isWay(gaps []int) bool {
	at := w.from
	for _, gap := range gaps {
		var nexts set
		g := w.Gaps[gap]
		if at.has(g.A) {
			nexts = nexts.with(g.B)
		}
		if at.has(g.B) {
			nexts = nexts.with(g.A)
		}
		at = nexts
	}
	return at.meets(w.keep)
}

// shuts reports whether gaps shut the list from which weevils come from the one that is to be kept.
func (w houseAtWork) shuts(gaps set) bool { return w.isSafe(place{in: w.from, closed: gaps}) }

// Cut returns as few gaps as can be that shut two lists.
func Cut(h House, from, keep []int) ([]int, api.Errno) {
	w, e := workBetween(h, from, keep)
	if e != api.OK {
		return nil, e
	}
	return fewestOf(len(w.Gaps), w.shuts).list(), api.OK
}

// Shuts reports whether gaps shut two lists.
func Shuts(h House, from, keep, gaps []int) (bool, api.Errno) {
	w, e := workBetween(h, from, keep)
	if e != api.OK {
		return false, e
	}
	closed, e := setOf(gaps, w.hasGap)
	if e != api.OK {
		return false, e
	}
	return w.shuts(closed), api.OK
}

// Ways returns as many ways as can be that are apart.
func Ways(h House, from, keep []int) ([][]int, api.Errno) {
	w, e := workBetween(h, from, keep)
	if e != api.OK {
		return nil, e
	}
	return w.ways(), api.OK
}

// Leads returns the number of ways that are apart.
func Leads(h House, from, keep []int, ways [][]int) (int, api.Errno) {
	w, e := workBetween(h, from, keep)
	if e != api.OK {
		return 0, e
	}
	if e := w.errorOfWays(ways); e != api.OK {
		return 0, e
	}
	return len(ways), api.OK
}
