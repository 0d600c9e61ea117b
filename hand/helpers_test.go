package hand_test

import (
	"slices"

	"staddle/api"
	"staddle/hand"
)

func list(n ...int) []int { return n }

func span(lo, hi int) api.Span { return api.Span{Lo: lo, Hi: hi} }

func count(hour, lo, hi int) hand.Count { return hand.Count{Hour: hour, Sacks: span(lo, hi)} }

func booking(hour, sacks int) hand.Booking { return hand.Booking{Hour: hour, Sacks: sacks} }

func spell(who, from, to int) hand.Spell { return hand.Spell{Hand: who, From: from, To: to} }

func part(from, to int) hand.Stretch { return hand.Stretch{From: from, To: to} }

func parts(all ...hand.Stretch) []hand.Stretch { return all }

// four is the watch of the chapter's examples, with spells.
func four(spells ...hand.Spell) hand.Watch {
	return hand.Watch{
		Hours: 24, Allow: 1, Hands: 3,
		Counts:   []hand.Count{count(0, 100, 102), count(6, 90, 92), count(12, 80, 84), count(20, 70, 71)},
		Bookings: []hand.Booking{booking(4, -2), booking(15, 10)},
		Spells:   spells,
	}
}

// shared is the watch of example 2, and of example 3 if the spell of hand 1 ends at hour 12.
func shared(until int) hand.Watch { return four(spell(0, 0, 6), spell(1, 5, until), spell(2, 14, 20)) }

// own is the watch of example 4.
func own() hand.Watch { return four(spell(2, 1, 5), spell(2, 14, 20)) }

// late is the watch of example 5, with a count that clashes.
func late() hand.Watch {
	w := shared(14)
	w.Counts = append(w.Counts, count(22, 72, 75))
	return w
}

// but returns the watch of example 2, changed.
func but(change func(w *hand.Watch)) hand.Watch {
	w := shared(14)
	change(&w)
	return w
}

// full is a watch with all that is allowed, each hand with two spells.
func full() hand.Watch {
	w := hand.Watch{Hours: 60, Allow: 20, Hands: 6}
	for k := range 8 {
		w.Counts = append(w.Counts, count(8*k, 500-60*k, 500-60*k))
	}
	for k := range 10 {
		w.Bookings = append(w.Bookings, booking(6*k, 200-400*(k%2)))
	}
	for k := range 12 {
		w.Spells = append(w.Spells, spell(k%6, 4*k, 4*k+16))
	}
	return w
}

func copyWatch(w hand.Watch) hand.Watch {
	w.Counts, w.Bookings, w.Spells = slices.Clone(w.Counts), slices.Clone(w.Bookings), slices.Clone(w.Spells)
	return w
}

func sameWatch(a, b hand.Watch) bool {
	return a.Hours == b.Hours && a.Allow == b.Allow && a.Hands == b.Hands &&
		slices.Equal(a.Counts, b.Counts) && slices.Equal(a.Bookings, b.Bookings) && slices.Equal(a.Spells, b.Spells)
}

// with returns a watch in which a count is of another span.
func with(w hand.Watch, k, lo, hi int) hand.Watch {
	w = copyWatch(w)
	w.Counts[k].Sacks = span(lo, hi)
	return w
}

// listsOf are all lists of numbers below n in increasing order: shorter ones first, and those of the same length in
// lexicographic order.
func listsOf(n int) [][]int {
	var all [][]int
	for bits := range 1 << n {
		var l []int
		for k := range n {
			if bits>>k&1 == 1 {
				l = append(l, k)
			}
		}
		all = append(all, l)
	}
	slices.SortFunc(all, func(a, b []int) int {
		if len(a) != len(b) {
			return len(a) - len(b)
		}
		return slices.Compare(a, b)
	})
	return all
}

// isList says whether a result is a list of numbers below n in strictly increasing order.
func isList(l []int, n int) bool {
	for i, k := range l {
		if k < 0 || k >= n || i > 0 && l[i-1] >= k {
			return false
		}
	}
	return true
}

// isBefore says whether a stretch comes before another one.
func isBefore(a, b hand.Stretch) bool { return a.From < b.From || a.From == b.From && a.To < b.To }

// areInOrder says whether each stretch comes before the next one.
func areInOrder(l []hand.Stretch) bool {
	for i := range l {
		if i > 0 && !isBefore(l[i-1], l[i]) {
			return false
		}
	}
	return true
}

// picked are the listed ones of some stretches.
func picked(all []hand.Stretch, l []int) []hand.Stretch {
	var some []hand.Stretch
	for _, k := range l {
		some = append(some, all[k])
	}
	return some
}

// allParts are all stretches of a watch.
func allParts(w hand.Watch) []hand.Stretch {
	var all []hand.Stretch
	for from := range w.Counts {
		for to := range w.Counts {
			if from < to {
				all = append(all, part(from, to))
			}
		}
	}
	return all
}

// bookedIn says what was booked in an interval, hour by hour.
func bookedIn(w hand.Watch, interval int) int {
	n := 0
	for hour := w.Counts[interval].Hour + 1; hour <= w.Counts[interval+1].Hour; hour++ {
		for _, b := range w.Bookings {
			if b.Hour == hour {
				n += b.Sacks
			}
		}
	}
	return n
}

// allowedIn says how much can be lost in an interval.
func allowedIn(w hand.Watch, interval int) int {
	return w.Allow * (w.Counts[interval+1].Hour - w.Counts[interval].Hour)
}

// isIn says, hour by hour, whether a hand has the key in an interval.
func isIn(w hand.Watch, who, interval int) bool {
	for hour := w.Counts[interval].Hour; hour < w.Counts[interval+1].Hour; hour++ {
		for _, s := range w.Spells {
			if s.Hand == who && s.From <= hour && hour < s.To {
				return true
			}
		}
	}
	return false
}

// someIn says whether one of some hands has the key in an interval.
func someIn(w hand.Watch, hands []int, interval int) bool {
	return slices.ContainsFunc(hands, func(who int) bool { return isIn(w, who, interval) })
}

// hands are all hands of a watch, and others are all but one.
func hands(w hand.Watch) []int {
	var all []int
	for who := range w.Hands {
		all = append(all, who)
	}
	return all
}

func others(w hand.Watch, who int) []int {
	return slices.DeleteFunc(hands(w), func(k int) bool { return k == who })
}

// someThere says whether one of some hands has the key in an interval of a stretch.
func someThere(w hand.Watch, hands []int, s hand.Stretch) bool {
	for i := s.From; i < s.To; i++ {
		if someIn(w, hands, i) {
			return true
		}
	}
	return false
}

// bookedOf is what was booked in a stretch, and gapOf the gap of it.
func bookedOf(w hand.Watch, s hand.Stretch) int {
	n := 0
	for i := s.From; i < s.To; i++ {
		n += bookedIn(w, i)
	}
	return n
}

func gapOf(w hand.Watch, s hand.Stretch) int {
	n := w.Counts[s.From].Sacks.Lo + bookedOf(w, s) - w.Counts[s.To].Sacks.Hi
	for i := s.From; i < s.To; i++ {
		n -= allowedIn(w, i)
	}
	return n
}

// shortOf are the stretches that are short, and smallestOf those that are smallest.
func shortOf(w hand.Watch) []hand.Stretch {
	return slices.DeleteFunc(allParts(w), func(s hand.Stretch) bool { return gapOf(w, s) <= 0 })
}

func smallestOf(w hand.Watch) []hand.Stretch {
	short := shortOf(w)
	var all []hand.Stretch
	for _, s := range short {
		inner := 0
		for _, o := range short {
			if s.From <= o.From && o.To <= s.To {
				inner++
			}
		}
		if inner == 1 {
			all = append(all, s)
		}
	}
	return all
}

// far is more than anything can cost.
const far = 1 << 30

// cheapest says what the intervals of a watch cost at least, or far or more if there is no truth, where cost says what an
// interval costs in which so many sacks are gone. It goes through all numbers of sacks that can lie there at each count.
func cheapest(w hand.Watch, cost func(interval, gone int) int) int {
	costs := map[int]int{}
	for n := w.Counts[0].Sacks.Lo; n <= w.Counts[0].Sacks.Hi; n++ {
		costs[n] = 0
	}
	for i := range len(w.Counts) - 1 {
		booked, then, next := bookedIn(w, i), w.Counts[i+1].Sacks, map[int]int{}
		for n, c := range costs {
			for after := then.Lo; after <= min(then.Hi, n+booked); after++ {
				total := c + cost(i, n+booked-after)
				if old, ok := next[after]; total < far && (!ok || total < old) {
					next[after] = total
				}
			}
		}
		costs = next
	}
	least := far
	for _, c := range costs {
		least = min(least, c)
	}
	return least
}

// costs are what it costs in each interval if more is gone than is allowed: what is gone beyond it, or nothing, or far.
func costsOf(w hand.Watch, dear, free []int) func(interval, gone int) int {
	var allowed, each [hand.MaxCounts]int
	for i := range len(w.Counts) - 1 {
		allowed[i], each[i] = allowedIn(w, i), far
		if someIn(w, dear, i) {
			each[i] = 1
		}
		if someIn(w, free, i) {
			each[i] = 0
		}
	}
	return func(interval, gone int) int {
		over := max(0, gone-allowed[interval])
		return min(over, 1) * min(far, over*each[interval])
	}
}

// hasTruth says whether there is a truth in which just some hands have taken something.
func hasTruth(w hand.Watch, some []int) bool { return cheapest(w, costsOf(w, nil, some)) == 0 }

// agrees says whether there is a truth.
func agrees(w hand.Watch) bool { return hasTruth(w, hands(w)) }

// leastOf says what a hand has taken at least, and missingOf what all have taken at least.
func leastOf(w hand.Watch, who int) int { return cheapest(w, costsOf(w, list(who), others(w, who))) }

func missingOf(w hand.Watch) int { return cheapest(w, costsOf(w, hands(w), nil)) }

// canOf says whether something is gone in some truth in an interval in which a hand is there, who can have taken it.
func canOf(w hand.Watch, who int) bool {
	all := costsOf(w, nil, hands(w))
	for i := range len(w.Counts) - 1 {
		if isIn(w, who, i) && cheapest(w, func(interval, gone int) int {
			if interval == i && gone == 0 {
				return far
			}
			return all(interval, gone)
		}) == 0 {
			return true
		}
	}
	return false
}

// withinOf says which numbers of sacks a count has in truths.
func withinOf(w hand.Watch, k int) api.Span {
	var all []int
	for n := w.Counts[k].Sacks.Lo; n <= w.Counts[k].Sacks.Hi; n++ {
		if agrees(with(w, k, n, n)) {
			all = append(all, n)
		}
	}
	return span(all[0], all[len(all)-1])
}

// clashOf says which stretch is the first one that shows by itself that there is no truth.
func clashOf(w hand.Watch) (hand.Stretch, bool) {
	for _, s := range allParts(w) {
		from, to := w.Counts[s.From].Sacks, w.Counts[s.To].Sacks
		if to.Lo > from.Hi+bookedOf(w, s) || gapOf(w, s) > 0 && !someThere(w, hands(w), s) {
			return s, true
		}
	}
	return part(0, 0), false
}

// areApart says whether no hand is there in two of some stretches.
func areApart(w hand.Watch, l []hand.Stretch) bool {
	for who := range w.Hands {
		n := 0
		for _, s := range l {
			if someThere(w, list(who), s) {
				n++
			}
		}
		if n > 1 {
			return false
		}
	}
	return true
}

// apartOf are as many smallest stretches as can be that are apart, the first ones.
func apartOf(w hand.Watch) []hand.Stretch {
	all := smallestOf(w)
	var found []hand.Stretch
	for _, l := range listsOf(len(all)) {
		if some := picked(all, l); len(some) > len(found) && areApart(w, some) {
			found = some
		}
	}
	return found
}

// isProof says whether stretches are short, without other hands than one, and none in an interval in which this one is there
// with another one of them.
func isProof(w hand.Watch, who int, l []hand.Stretch) bool {
	var in [hand.MaxCounts]int
	for _, s := range l {
		if gapOf(w, s) <= 0 || someThere(w, others(w, who), s) {
			return false
		}
		for i := s.From; i < s.To; i++ {
			if isIn(w, who, i) {
				in[i]++
			}
		}
	}
	return slices.Max(in[:]) <= 1
}

// provedBy says what the gaps of stretches add up to.
func provedBy(w hand.Watch, l []hand.Stretch) int {
	n := 0
	for _, s := range l {
		n += gapOf(w, s)
	}
	return n
}
