package weevil_test

import (
	"math/rand/v2"
	"slices"
	"testing"

	"staddle/api"
	"staddle/weevil"
)

func list(n ...int) []int { return n }

func lists(all ...[]int) [][]int { return all }

func gap(a, b int) weevil.Gap { return weevil.Gap{A: a, B: b} }

func gaps(all ...weevil.Gap) []weevil.Gap { return all }

func seen(week, bin int) weevil.Sight { return weevil.Sight{Week: week, Bin: bin, Seen: true} }

func none(week, bin int) weevil.Sight { return weevil.Sight{Week: week, Bin: bin} }

// six is the house of the chapter's examples, with sights.
func six(sights ...weevil.Sight) weevil.House {
	return weevil.House{
		Bins:   6,
		Gaps:   gaps(gap(0, 1), gap(0, 2), gap(1, 3), gap(2, 3), gap(3, 4), gap(4, 5), gap(1, 2)),
		Sights: sights,
	}
}

// but returns the house of example 2, changed.
func but(change func(h *weevil.House)) weevil.House {
	h := six(seen(2, 3), none(1, 1))
	change(&h)
	return h
}

// clashing is the house of example 3.
func clashing() weevil.House { return six(seen(2, 3), none(1, 1), none(2, 4)) }

// row is a house whose bins are joined one after the other.
func row(bins int, sights ...weevil.Sight) weevil.House {
	h := weevil.House{Bins: bins, Sights: sights}
	for k := range bins - 1 {
		h.Gaps = append(h.Gaps, gap(k, k+1))
	}
	return h
}

// side is a house with so many gaps between two bins.
func side(between int) weevil.House {
	return weevil.House{Bins: 2, Gaps: slices.Repeat(gaps(gap(0, 1)), between)}
}

// full is a house with all that is allowed.
func full() weevil.House {
	h := row(7, slices.Repeat([]weevil.Sight{seen(9, 6), none(0, 3)}, 4)...)
	h.Gaps = append(h.Gaps, gap(6, 0), gap(5, 0), gap(4, 0), gap(3, 0))
	return h
}

func copyHouse(h weevil.House) weevil.House {
	return weevil.House{Bins: h.Bins, Gaps: slices.Clone(h.Gaps), Sights: slices.Clone(h.Sights)}
}

func sameHouse(a, b weevil.House) bool {
	return a.Bins == b.Bins && slices.Equal(a.Gaps, b.Gaps) && slices.Equal(a.Sights, b.Sights)
}

func copyLists(all [][]int) [][]int {
	var copies [][]int
	for _, l := range all {
		copies = append(copies, slices.Clone(l))
	}
	return copies
}

func sameLists(a, b [][]int) bool { return slices.EqualFunc(a, b, slices.Equal[[]int]) }

// numbers are those from 0 to n-1.
func numbers(n int) []int {
	var all []int
	for k := range n {
		all = append(all, k)
	}
	return all
}

// isList says whether a result is a list of numbers below n in strictly increasing order.
func isList(l []int, n int) bool {
	for i, k := range l {
		if k < 0 || k >= n || i > 0 && l[i-1] >= k {
			return false
		}
	}
	return true
}

// listsOf are all lists of numbers below n in increasing order: shorter ones first, and those of the same length in
// lexicographic order.
func listsOf(n int) [][]int {
	var all [][]int
	for bits := range 1 << n {
		var l []int
		for k := range n {
			if bits>>k&1 == 1 {
				l = append(l, k)
			}
		}
		all = append(all, l)
	}
	slices.SortFunc(all, func(a, b []int) int {
		if len(a) != len(b) {
			return len(a) - len(b)
		}
		return slices.Compare(a, b)
	})
	return all
}

// far is more weeks than weevils ever need.
const far = 99

// between says in how many weeks weevils come from each bin to each other one through the gaps that are not closed, by taking
// the bins into the middle of ways one after the other.
func between(h weevil.House, closed []int) [weevil.MaxBins][weevil.MaxBins]int {
	var d [weevil.MaxBins][weevil.MaxBins]int
	for a := range h.Bins {
		for b := range h.Bins {
			if a != b {
				d[a][b] = far
			}
		}
	}
	for k, g := range h.Gaps {
		if !slices.Contains(closed, k) {
			d[g.A][g.B], d[g.B][g.A] = 1, 1
		}
	}
	for c := range h.Bins {
		for a := range h.Bins {
			for b := range h.Bins {
				d[a][b] = min(d[a][b], d[a][c]+d[c][b])
			}
		}
	}
	return d
}

// weeksOf says when weevils that come from a list of bins reach each bin through the gaps that are not closed.
func weeksOf(h weevil.House, from, closed []int) []int {
	d := between(h, closed)
	weeks := slices.Repeat(list(weevil.Never), h.Bins)
	for bin := range h.Bins {
		for _, a := range from {
			if n := d[a][bin]; n < far && (weeks[bin] == weevil.Never || n < weeks[bin]) {
				weeks[bin] = n
			}
		}
	}
	return weeks
}

// reachedBy says which bins weevils that come from a list of bins have reached in at most so many weeks.
func reachedBy(h weevil.House, from []int, most int) []int {
	var all []int
	for bin, week := range weeksOf(h, from, nil) {
		if week != weevil.Never && week <= most {
			all = append(all, bin)
		}
	}
	return all
}

// explains says whether a list of bins explains a sight.
func explains(h weevil.House, from []int, s weevil.Sight) bool {
	return slices.Contains(reachedBy(h, from, s.Week), s.Bin) == s.Seen
}

// explainsAll says whether a list of bins explains some sights of a house.
func explainsAll(h weevil.House, from, sights []int) bool {
	for _, k := range sights {
		if !explains(h, from, h.Sights[k]) {
			return false
		}
	}
	return true
}

// isCleared says whether a bin is cleared.
func isCleared(h weevil.House, bin int) bool {
	return slices.ContainsFunc(h.Sights, func(s weevil.Sight) bool { return !s.Seen && !explains(h, list(bin), s) })
}

// areApart says whether two sights are apart.
func areApart(h weevil.House, a, b int) bool {
	if !h.Sights[a].Seen || !h.Sights[b].Seen {
		return false
	}
	for bin := range h.Bins {
		if !isCleared(h, bin) && explains(h, list(bin), h.Sights[a]) && explains(h, list(bin), h.Sights[b]) {
			return false
		}
	}
	return true
}

// allApart says whether some sights are Seen, any two of which are apart.
func allApart(h weevil.House, sights []int) bool {
	for i, a := range sights {
		if !h.Sights[a].Seen {
			return false
		}
		for _, b := range sights[:i] {
			if !areApart(h, a, b) {
				return false
			}
		}
	}
	return true
}

// originsOf are all origins, shorter lists first.
func originsOf(h weevil.House) [][]int {
	var all [][]int
	for _, from := range listsOf(h.Bins) {
		if explainsAll(h, from, numbers(len(h.Sights))) {
			all = append(all, from)
		}
	}
	return all
}

// clash says whether no list of bins explains some sights.
func clash(h weevil.House, sights []int) bool {
	return !slices.ContainsFunc(listsOf(h.Bins), func(from []int) bool { return explainsAll(h, from, sights) })
}

// meet says whether something is in two lists.
func meet(a, b []int) bool {
	return slices.ContainsFunc(a, func(n int) bool { return slices.Contains(b, n) })
}

// shut says whether gaps shut one list of bins from another one.
func shut(h weevil.House, from, keep, closed []int) bool {
	for bin, week := range weeksOf(h, from, closed) {
		if week != weevil.Never && slices.Contains(keep, bin) {
			return false
		}
	}
	return true
}

// leastCut says how many gaps at least shut one list of bins from another one.
func leastCut(h weevil.House, from, keep []int) int {
	all := listsOf(len(h.Gaps))
	return len(all[slices.IndexFunc(all, func(closed []int) bool { return shut(h, from, keep, closed) })])
}

// leadsFrom says whether gaps are gone through one after the other from a bin to one of a list.
func leadsFrom(h weevil.House, bin int, keep, way []int) bool {
	if len(way) == 0 {
		return slices.Contains(keep, bin)
	}
	g := h.Gaps[way[0]]
	return g.A == bin && leadsFrom(h, g.B, keep, way[1:]) || g.B == bin && leadsFrom(h, g.A, keep, way[1:])
}

// isWay says whether gaps are a way from one list of bins to another one.
func isWay(h weevil.House, from, keep, way []int) bool {
	return len(way) > 0 && slices.ContainsFunc(from, func(bin int) bool { return leadsFrom(h, bin, keep, way) })
}

// saves says whether a plan saves bins, by going through all weeks of it, and through as many after it as there are bins.
func saves(h weevil.House, from, keep []int, plan [][]int) bool {
	var closed [weevil.MaxGaps]bool
	var in, out [weevil.MaxBins]bool
	for _, bin := range from {
		in[bin] = true
	}
	for week := range len(plan) + h.Bins {
		if week < len(plan) {
			for _, k := range plan[week] {
				closed[k] = true
			}
		}
		out = in
		for k, g := range h.Gaps {
			if !closed[k] {
				out[g.A], out[g.B] = out[g.A] || in[g.B], out[g.B] || in[g.A]
			}
		}
		in = out
	}
	return !slices.ContainsFunc(keep, func(bin int) bool { return in[bin] })
}

// isPlan says whether a plan closes no more gaps a week than it may, in order, and none twice.
func isPlan(h weevil.House, speed int, plan [][]int) bool {
	for _, closed := range plan {
		if !isList(closed, len(h.Gaps)) || len(closed) > speed {
			return false
		}
	}
	all := slices.Concat(plan...)
	slices.Sort(all)
	return len(plan) <= weevil.MaxWeeks && len(slices.Compact(all)) == len(slices.Concat(plan...))
}

// plansOf goes through all plans of so many weeks, in which some can be without gaps, with up to so many gaps in each of them.
func plansOf(h weevil.House, weeks, speed int, do func(plan [][]int)) {
	plan := make([][]int, weeks)
	var more func(k int)
	more = func(k int) {
		if k == len(h.Gaps) {
			do(plan)
			return
		}
		more(k + 1)
		for week, closed := range plan {
			if len(closed) < speed {
				plan[week] = append(closed, k)
				more(k + 1)
				plan[week] = closed
			}
		}
	}
	more(0)
}

// fewestOf says for each speed up to one how many gaps a plan of so many weeks closes at least that saves bins, or far if there
// is none.
func fewestOf(h weevil.House, from, keep []int, weeks, speed int) []int {
	fewest := slices.Repeat(list(far), speed+1)
	plansOf(h, weeks, speed, func(plan [][]int) {
		n, most := 0, 0
		for _, closed := range plan {
			n += len(closed)
			most = max(most, len(closed))
		}
		if n < fewest[most] && saves(h, from, keep, plan) {
			for k := most; k <= speed; k++ {
				fewest[k] = min(fewest[k], n)
			}
		}
	})
	return fewest
}

// someGap returns a gap between two of so many bins, of which there must be two.
func someGap(r *rand.Rand, bins int) weevil.Gap {
	a := r.IntN(bins)
	return gap(a, (a+1+r.IntN(bins-1))%bins)
}

// someHouse returns a house with up to so many bins and gaps, without sights.
func someHouse(r *rand.Rand, bins, most int) weevil.House {
	h := weevil.House{Bins: 1 + r.IntN(bins)}
	if h.Bins > 1 {
		for range r.IntN(most + 1) {
			h.Gaps = append(h.Gaps, someGap(r, h.Bins))
		}
	}
	return h
}

// anyHouse returns a house of any kind; most of its sights, if there are several, clash.
func anyHouse(r *rand.Rand) weevil.House {
	h := someHouse(r, weevil.MaxBins, weevil.MaxGaps)
	for range r.IntN(weevil.MaxSights + 1) {
		h.Sights = append(h.Sights, weevil.Sight{Week: r.IntN(4), Bin: r.IntN(h.Bins), Seen: r.IntN(2) == 0})
	}
	return h
}

// agreedHouse returns a house whose sights some list of bins explains.
func agreedHouse(r *rand.Rand) weevil.House {
	h := someHouse(r, weevil.MaxBins, weevil.MaxGaps)
	from := someList(r, h.Bins, 4)
	for range r.IntN(weevil.MaxSights + 1) {
		s := weevil.Sight{Week: r.IntN(3), Bin: r.IntN(h.Bins), Seen: true}
		s.Seen = explains(h, from, s)
		h.Sights = append(h.Sights, s)
	}
	return h
}

// seenHouse returns a house in which weevils were seen in most bins that they can have reached.
func seenHouse(r *rand.Rand) weevil.House {
	h := someHouse(r, weevil.MaxBins, 8)
	from := someList(r, h.Bins, 2)
	for bin, week := range weeksOf(h, from, nil) {
		if week != weevil.Never {
			h.Sights = append(h.Sights, seen(min(weevil.MaxWeeks, week+r.IntN(2)), bin))
		}
	}
	if len(h.Sights) > 0 && r.IntN(3) == 0 {
		h.Sights = append(h.Sights, none(r.IntN(2), r.IntN(h.Bins)))
	}
	r.Shuffle(len(h.Sights), func(i, j int) { h.Sights[i], h.Sights[j] = h.Sights[j], h.Sights[i] })
	return h
}

// rowHouse returns a house in which each bin is joined to the next one, and some to others.
func rowHouse(r *rand.Rand) weevil.House {
	h := row(3 + r.IntN(5))
	for range r.IntN(4) {
		h.Gaps = append(h.Gaps, someGap(r, h.Bins))
	}
	r.Shuffle(len(h.Gaps), func(i, j int) { h.Gaps[i], h.Gaps[j] = h.Gaps[j], h.Gaps[i] })
	for range r.IntN(3) {
		h.Sights = append(h.Sights, weevil.Sight{Week: r.IntN(4), Bin: r.IntN(h.Bins), Seen: r.IntN(2) == 0})
	}
	return h
}

// starHouse returns a house in which a bin is joined to up to three others, and weevils were seen in it, but not in most bins
// near it.
func starHouse(r *rand.Rand) weevil.House {
	h := weevil.House{Bins: 4 + r.IntN(4)}
	bins := r.Perm(h.Bins)
	for _, bin := range bins[1 : 2+r.IntN(3)] {
		h.Gaps = append(h.Gaps, gap(bins[0], bin))
	}
	h.Gaps = append(h.Gaps, someGap(r, h.Bins))
	h.Sights = append(h.Sights, seen(1, bins[0]))
	for _, bin := range bins {
		if r.IntN(8) > 0 {
			h.Sights = append(h.Sights, none(0, bin))
		}
	}
	r.Shuffle(len(h.Sights), func(i, j int) { h.Sights[i], h.Sights[j] = h.Sights[j], h.Sights[i] })
	return h
}

// kinds are all kinds of houses.
func kinds() []func(r *rand.Rand) weevil.House {
	return []func(r *rand.Rand) weevil.House{anyHouse, agreedHouse, seenHouse, rowHouse, starHouse}
}

// trials calls a function with houses of one kind, always the same ones.
func trials(t *testing.T, n int, make func(r *rand.Rand) weevil.House, try func(r *rand.Rand, h weevil.House)) {
	t.Helper()
	r := rand.New(rand.NewPCG(31, 37))
	for range n {
		h := make(r)
		if e := weevil.Check(h); e != api.OK {
			t.Fatal(h, "should be allowed, but has error", e)
		}
		try(r, h)
		if t.Failed() {
			return
		}
	}
}

// tried calls a function with houses of all kinds.
func tried(t *testing.T, n int, try func(r *rand.Rand, h weevil.House)) {
	t.Helper()
	for _, make := range kinds() {
		trials(t, n, make, try)
	}
}

// someList returns up to so many numbers below n, each once, in any order.
func someList(r *rand.Rand, n, most int) []int {
	return r.Perm(n)[:min(n, r.IntN(most+1))]
}

// someLists returns two lists of bins that have none in common.
func someLists(r *rand.Rand, h weevil.House) (from, keep []int) {
	all := r.Perm(h.Bins)
	i := min(len(all), 1+r.IntN(2))
	j := min(len(all), i+1+r.IntN(2))
	from, keep = all[:i], all[i:j]
	if r.IntN(20) == 0 {
		from = nil
	}
	return slices.Clone(from), slices.Clone(keep)
}

// somePlan returns a plan of up to so many gaps a week.
func somePlan(r *rand.Rand, h weevil.House, speed int) [][]int {
	left := r.Perm(len(h.Gaps))
	var plan [][]int
	for range r.IntN(weevil.MaxWeeks + 1) {
		n := min(len(left), r.IntN(speed+1))
		closed := slices.Clone(left[:n])
		slices.Sort(closed)
		plan, left = append(plan, closed), left[n:]
	}
	return plan
}
