package hand

import (
	"iter"
	"slices"

	"staddle/api"
)

// intervals are some of those between the counts of a watch.
type intervals [MaxCounts - 1]bool

// in returns those intervals that are in a stretch.
func (a intervals) in(s Stretch) intervals {
	for i := range a {
		a[i] = a[i] && s.From <= i && i < s.To
	}
	return a
}

// and returns those intervals, and others.
func (a intervals) and(b intervals) intervals {
	for i := range a {
		a[i] = a[i] || b[i]
	}
	return a
}

// meet reports whether two stretches have one of these intervals in common.
func (a intervals) meet(s, other Stretch) bool { return a.in(s).in(other) != intervals{} }

// watchAtWork is a watch, with the hands that may have taken something, the intervals in which each hand is there, and the hands
// that are there in each stretch.
type watchAtWork struct {
	Watch
	mayTake func(hand int) bool
	isIn    [MaxHands]intervals
	there   map[Stretch][]int
}

// work begins to work on a watch all of whose hands may have taken something: the errors of Check.
func work(w Watch) (watchAtWork, api.Errno) {
	if e := Check(w); e != api.OK {
		return watchAtWork{}, e
	}
	a := watchAtWork{Watch: w, mayTake: w.hasHand, there: map[Stretch][]int{}}
	for _, s := range w.Spells {
		a.isIn[s.Hand] = a.isIn[s.Hand].and(w.intervalsOf(s))
	}
	for s := range a.stretches() {
		a.there[s] = a.handsThat(func(hand int) bool { return a.isIn[hand].in(s) != intervals{} })
	}
	return a, api.OK
}

// workIn begins to work on a watch and a stretch: the errors of Check, then those of the stretch.
func workIn(w Watch, s Stretch) (watchAtWork, api.Errno) {
	a, e := work(w)
	if e != api.OK {
		return watchAtWork{}, e
	}
	if e := a.errorOf(s); e != api.OK {
		return watchAtWork{}, e
	}
	return a, api.OK
}

// workBy begins to work on a watch and a list of hands: the errors of Check, then those of the list.
func workBy(w Watch, hands []int) (watchAtWork, api.Errno) {
	a, e := work(w)
	if e != api.OK {
		return watchAtWork{}, e
	}
	if e := a.errorOfHands(hands); e != api.OK {
		return watchAtWork{}, e
	}
	return a, api.OK
}

// workWith begins to work on a watch and a thing of it, by its number: the errors of Check, then ErrNot.
func workWith(w Watch, number int, has func(number int) bool) (watchAtWork, api.Errno) {
	a, e := work(w)
	if e != api.OK {
		return watchAtWork{}, e
	}
	if !has(number) {
		return watchAtWork{}, api.ErrNot
	}
	return a, api.OK
}

// workTrue begins to work on a watch that does not clash: the errors of Check, then ErrClash.
func workTrue(w Watch) (watchAtWork, api.Errno) {
	a, e := work(w)
	if e != api.OK {
		return watchAtWork{}, e
	}
	if a.clashes() {
		return watchAtWork{}, api.ErrClash
	}
	return a, api.OK
}

// intervalsOf returns the intervals in which a hand is there by a spell.
func (w Watch) intervalsOf(s Spell) intervals {
	var a intervals
	for i := range len(w.Counts) - 1 {
		a[i] = s.From < w.Counts[i+1].Hour && s.To > w.Counts[i].Hour
	}
	return a
}

// stretches yields all stretches of a watch, by From, then by To.
func (w watchAtWork) stretches() iter.Seq[Stretch] {
	return func(yield func(Stretch) bool) {
		for from := range w.Counts {
			for to := from + 1; to < len(w.Counts); to++ {
				if !yield(Stretch{From: from, To: to}) {
					return
				}
			}
		}
	}
}

// handsThat returns the hands that are as they are asked to be, in increasing order.
func (w watchAtWork) handsThat(are func(hand int) bool) []int {
	var hands []int
	for hand := range w.Hands {
		if are(hand) {
			hands = append(hands, hand)
		}
	}
	return hands
}

// only returns a watch at work in which no other hands may have taken something.
func (w watchAtWork) only(hands []int) watchAtWork {
	w.mayTake = func(hand int) bool { return slices.Contains(hands, hand) }
	return w
}

// without returns a watch at work in which all other hands may have taken something.
func (w watchAtWork) without(hand int) watchAtWork {
	w.mayTake = func(other int) bool { return other != hand }
	return w
}

// isShut reports whether none of the hands that may have taken something is there in a stretch.
func (w watchAtWork) isShut(s Stretch) bool { return !slices.ContainsFunc(w.there[s], w.mayTake) }
