package heat_test

import (
	"math/rand/v2"
	"slices"
	"testing"

	"staddle/api"
	"staddle/heat"
)

func span(lo, hi int) api.Span { return api.Span{Lo: lo, Hi: hi} }

func bin(warm, mark, lo, hi int) heat.Bin {
	return heat.Bin{Warm: warm, Mark: mark, Damp: span(lo, hi)}
}

func day(bins ...int) []int { return bins }

func plan(days ...[]int) [][]int { return days }

func state(days int, left ...int) heat.State { return heat.State{Left: left, Days: days} }

// barn is that of the chapter's examples, with so many of its bins.
func barn(bins int) heat.Barn {
	all := []heat.Bin{bin(20, 40, 3, 4), bin(30, 50, 2, 3), bin(30, 40, 4, 4)}
	return heat.Barn{Cool: 20, Gangs: 1, Rise: [6]int{0, 0, 6, 8, 10, 20}, Bins: all[:bins]}
}

// steady is a barn of bins that are cool at first, each of which lasts for so many days.
func steady(gangs int, lasts ...int) heat.Barn {
	b := heat.Barn{Cool: 0, Gangs: gangs, Rise: [6]int{0, 0, 0, 0, 0, 6}}
	for _, days := range lasts {
		b.Bins = append(b.Bins, bin(0, 6*days, 5, 5))
	}
	return b
}

// cold is a barn whose one bin never gets warmer.
func cold() heat.Barn {
	return heat.Barn{Cool: 9, Rise: [6]int{0, 0, 7, 7, 7, 7}, Bins: []heat.Bin{bin(3, 3, 0, 1)}}
}

// mixed is a barn with a bin that never gets warmer beside one that does, whatever is turned.
func mixed() heat.Barn {
	return heat.Barn{Cool: 0, Rise: [6]int{0, 0, 7, 7, 7, 7}, Bins: []heat.Bin{bin(3, 3, 0, 1), bin(0, 14, 2, 2)}}
}

func copyBarn(b heat.Barn) heat.Barn {
	b.Bins = slices.Clone(b.Bins)
	return b
}

func sameBarn(a, b heat.Barn) bool {
	return a.Cool == b.Cool && a.Gangs == b.Gangs && a.Rise == b.Rise && slices.Equal(a.Bins, b.Bins)
}

func copyPlan(p [][]int) [][]int {
	var all [][]int
	for _, list := range p {
		all = append(all, slices.Clone(list))
	}
	return all
}

func samePlan(a, b [][]int) bool { return slices.EqualFunc(a, b, slices.Equal[[]int]) }

func copyWall(wall []heat.State) []heat.State {
	var all []heat.State
	for _, s := range wall {
		all = append(all, heat.State{Left: slices.Clone(s.Left), Days: s.Days})
	}
	return all
}

func sameWall(a, b []heat.State) bool {
	return slices.EqualFunc(a, b, func(s, t heat.State) bool { return s.Days == t.Days && slices.Equal(s.Left, t.Left) })
}

// degrees says how warm a bin of one class is at the end of each day of a plan, word for word as the chapter does.
func degrees(b heat.Barn, p [][]int, bin, class int) []int {
	var all []int
	warm := b.Bins[bin].Warm
	for _, list := range p {
		if slices.Contains(list, bin) && warm > b.Cool {
			warm = b.Cool
		}
		warm += b.Rise[class]
		all = append(all, warm)
	}
	return all
}

// warmths says how warm a bin can be with any class within its damp.
func warmths(b heat.Barn, p [][]int, bin int) []api.Span {
	var all []api.Span
	damp := b.Bins[bin].Damp
	for class := damp.Lo; class <= damp.Hi; class++ {
		for day, n := range degrees(b, p, bin, class) {
			if class == damp.Lo {
				all = append(all, span(n, n))
			}
			all[day] = span(min(all[day].Lo, n), max(all[day].Hi, n))
		}
	}
	return all
}

// burning says on which day a bin can burn first, and which one, and whether any can.
func burning(b heat.Barn, p [][]int) (day, bin int, burns bool) {
	for k, x := range b.Bins {
		for d, s := range warmths(b, p, k) {
			if s.Hi > x.Mark && (!burns || d < day) {
				day, bin, burns = d, k, true
			}
		}
	}
	return day, bin, burns
}

func keeps(b heat.Barn, p [][]int) bool {
	_, _, burns := burning(b, p)
	return !burns
}

func turnings(p [][]int) int {
	n := 0
	for _, list := range p {
		n += len(list)
	}
	return n
}

// lists are all that can be turned on a day.
func lists(bins, gangs int) [][]int {
	var all [][]int
	for set := range 1 << bins {
		var list []int
		for k := range bins {
			if set>>k&1 == 1 {
				list = append(list, k)
			}
		}
		if len(list) <= gangs {
			all = append(all, list)
		}
	}
	return all
}

// hot is how warm each bin is with the greatest class within its damp.
type hot [heat.MaxBins]int

func begin(b heat.Barn) hot {
	var h hot
	for k, x := range b.Bins {
		h[k] = x.Warm
	}
	return h
}

// on says how warm the bins are after a day, and whether none of them burns.
func (h hot) on(b heat.Barn, list []int) (hot, bool) {
	keeps := true
	for k, x := range b.Bins {
		if slices.Contains(list, k) && h[k] > b.Cool {
			h[k] = b.Cool
		}
		h[k] += b.Rise[x.Damp.Hi]
		keeps = keeps && h[k] <= x.Mark
	}
	return h, keeps
}

// step is what a day leads to, and how many bins are turned on it.
type step struct {
	to    hot
	turns int
}

// steps goes through all degrees that the bins of a barn can have without burning, and all that can be done on a day.
func steps(b heat.Barn) map[hot][]step {
	all := map[hot][]step{}
	todo := []hot{begin(b)}
	for len(todo) > 0 {
		h := todo[len(todo)-1]
		todo = todo[:len(todo)-1]
		if _, ok := all[h]; ok {
			continue
		}
		all[h] = nil
		for _, list := range lists(len(b.Bins), b.Gangs) {
			if to, ok := h.on(b, list); ok {
				all[h] = append(all[h], step{to, len(list)})
				todo = append(todo, to)
			}
		}
	}
	return all
}

// known is what is found of a barn by going through all degrees: for how long it can be kept, and the fewest turnings of
// so many days, or -1.
type known struct {
	longest  int
	turnings [heat.MaxDays + 1]int
}

func look(b heat.Barn) known {
	all := steps(b)
	k := known{longest: heat.Ever}
	if n, ok := ends(all)[begin(b)]; ok {
		k.longest = n
	}
	cost := map[hot]int{begin(b): 0}
	for days := range k.turnings {
		k.turnings[days] = -1
		for _, n := range cost {
			if k.turnings[days] < 0 || n < k.turnings[days] {
				k.turnings[days] = n
			}
		}
		more := map[hot]int{}
		for h, n := range cost {
			for _, s := range all[h] {
				if m, ok := more[s.to]; !ok || n+s.turns < m {
					more[s.to] = n + s.turns
				}
			}
		}
		cost = more
	}
	return k
}

// ends says for how many days each degrees can be kept that cannot be kept for ever: 0 if nothing can follow, and so on.
func ends(all map[hot][]step) map[hot]int {
	days := map[hot]int{}
	for n := 0; ; n++ {
		var done []hot
		for h, list := range all {
			if _, ok := days[h]; !ok && !slices.ContainsFunc(list, func(s step) bool { _, ok := days[s.to]; return !ok }) {
				done = append(done, h)
			}
		}
		if len(done) == 0 {
			return days
		}
		for _, h := range done {
			days[h] = n
		}
	}
}

// goesOn says whether one plan, and another one after it again and again, keep.
func goesOn(b heat.Barn, start, round [][]int) bool {
	h := begin(b)
	ok := true
	for _, list := range start {
		if h, ok = h.on(b, list); !ok {
			return false
		}
	}
	seen := map[hot]bool{}
	for !seen[h] {
		seen[h] = true
		for _, list := range round {
			if h, ok = h.on(b, list); !ok {
				return false
			}
		}
	}
	return true
}

// days says for how many days a bin that has some degrees cannot burn if it is not turned, by counting them.
func days(b heat.Barn, bin, degrees int) int {
	rise := b.Rise[b.Bins[bin].Damp.Hi]
	if rise == 0 {
		return heat.Ever
	}
	n := 0
	for degrees+rise <= b.Bins[bin].Mark {
		degrees += rise
		n++
	}
	return n
}

func leftOf(b heat.Barn) []int {
	var left []int
	for k, x := range b.Bins {
		left = append(left, days(b, k, x.Warm))
	}
	return left
}

// nextOf says which state follows, and whether it does not burn.
func nextOf(b heat.Barn, left, list []int) ([]int, bool) {
	left = slices.Clone(left)
	for k := range left {
		if slices.Contains(list, k) {
			left[k] = max(left[k], days(b, k, b.Cool))
		}
		if left[k] != heat.Ever {
			left[k]--
		}
		if left[k] < 0 {
			return nil, false
		}
	}
	return left, true
}

func under(low, high []int) bool {
	for k := range low {
		if low[k] > high[k] {
			return false
		}
	}
	return true
}

// shown says what a wall shows, or -1 if it is none, word for word as the chapter does.
func shown(b heat.Barn, wall []heat.State) int {
	shows := -1
	for _, s := range wall {
		for _, list := range lists(len(b.Bins), b.Gangs) {
			next, ok := nextOf(b, s.Left, list)
			if ok && !slices.ContainsFunc(wall, func(w heat.State) bool { return w.Days < s.Days && under(next, w.Left) }) {
				return -1
			}
		}
		if under(leftOf(b), s.Left) && (shows < 0 || s.Days < shows) {
			shows = s.Days
		}
	}
	return shows
}

// somePlan returns one that is allowed, of up to so many days.
func somePlan(r *rand.Rand, b heat.Barn, days int) [][]int {
	all := lists(len(b.Bins), b.Gangs)
	var p [][]int
	for range r.IntN(days + 1) {
		p = append(p, slices.Clone(all[r.IntN(len(all))]))
	}
	return p
}

// someBarn returns one whose bins are of any kinds.
func someBarn(r *rand.Rand) heat.Barn {
	b := heat.Barn{Cool: r.IntN(40), Gangs: r.IntN(heat.MaxGangs + 1)}
	for class := range b.Rise {
		if n := r.IntN(heat.MaxRise + 1); n >= heat.MinRise {
			b.Rise[class] = n
		}
	}
	slices.Sort(b.Rise[:])
	for range 1 + r.IntN(heat.MaxBins) {
		mark := 20 + r.IntN(heat.MaxMark-19)
		lo := r.IntN(6)
		b.Bins = append(b.Bins, bin(r.IntN(mark+1), mark, lo, lo+r.IntN(6-lo)))
	}
	return b
}

// tightBarn returns one that is just about kept by its gangs, or just not.
func tightBarn(r *rand.Rand) heat.Barn {
	b := heat.Barn{Cool: r.IntN(20), Gangs: 1 + r.IntN(2), Rise: [6]int{6, 7, 8, 9, 10, 12}}
	bins := 2 + r.IntN(2)
	if b.Gangs == 2 || r.IntN(3) == 0 {
		bins = heat.MaxBins
	}
	for range bins {
		hi := r.IntN(6)
		mark := min(heat.MaxMark, b.Cool+b.Rise[hi]*(1+r.IntN(5))+r.IntN(6))
		b.Bins = append(b.Bins, bin(r.IntN(mark+1), mark, r.IntN(hi+1), hi))
	}
	return b
}

// trials calls a function with barns of one sort, always the same ones.
func trials(t *testing.T, n int, make func(r *rand.Rand) heat.Barn, try func(r *rand.Rand, b heat.Barn)) {
	t.Helper()
	r := rand.New(rand.NewPCG(17, 29))
	for range n {
		b := make(r)
		if e := heat.Check(b); e != api.OK {
			t.Fatal(b, "should be allowed, but has error", e)
		}
		try(r, b)
		if t.Failed() {
			return
		}
	}
}

// searched calls a function with barns of all sorts, with what is known of each of them.
func searched(t *testing.T, try func(r *rand.Rand, b heat.Barn, k known)) {
	t.Helper()
	for _, make := range []func(r *rand.Rand) heat.Barn{someBarn, tightBarn} {
		trials(t, 400, make, func(r *rand.Rand, b heat.Barn) { try(r, b, look(b)) })
	}
}
