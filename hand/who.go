package hand

import (
	"slices"

	"staddle/api"
)

// areApart reports whether no hand is there in both stretches.
func (w watchAtWork) areApart(a, b Stretch) bool {
	return every(w.there[a], func(hand int) bool { return !slices.Contains(w.there[b], hand) })
}

// pick returns the listed ones of some stretches.
func pick(all []Stretch, list []int) []Stretch {
	var some []Stretch
	for _, k := range list {
		some = append(some, all[k])
	}
	return some
}

// mostTaken returns how many sacks at most were taken in an interval in which a hand is there. As the hand can have taken any
// number of them, what lay there before and after it do not bound one another but by what both are themselves.
func (w watchAtWork) mostTaken(interval int) int {
	s := Stretch{From: interval, To: interval + 1}
	return w.within(s.From).Hi + w.booked(s) - w.within(s.To).Lo
}

// canHaveTaken reports whether a hand has taken something in some truth.
func (w watchAtWork) canHaveTaken(hand int) bool {
	for i := range len(w.Counts) - 1 {
		if w.isIn[hand][i] && w.mostTaken(i) > 0 {
			return true
		}
	}
	return false
}

// Explains reports whether hands explain a watch.
func Explains(w Watch, hands []int) (bool, api.Errno) {
	a, e := workBy(w, hands)
	switch {
	case e != api.OK:
		return false, e
	case a.clashes():
		return false, api.ErrClash
	}
	return !a.only(hands).clashes(), api.OK
}

// Left returns the smallest stretches in which none of some hands is there.
func Left(w Watch, hands []int) ([]Stretch, api.Errno) {
	a, e := workBy(w, hands)
	if e != api.OK {
		return nil, e
	}
	return those(a.smallest(), a.only(hands).isShut), api.OK
}

// Fewest returns as few hands as can be that explain a watch.
func Fewest(w Watch) ([]int, api.Errno) {
	a, e := workTrue(w)
	if e != api.OK {
		return nil, e
	}
	anyTwo := func(_, _ int) bool { return true }
	return best(a.Hands, anyTwo, func(hands []int) int {
		if a.only(hands).clashes() {
			return -1
		}
		return MaxHands - len(hands)
	}), api.OK
}

// Apart returns as many smallest stretches as can be any two of which are apart.
func Apart(w Watch) ([]Stretch, api.Errno) {
	a, e := work(w)
	if e != api.OK {
		return nil, e
	}
	all := a.smallest()
	apart := func(k, other int) bool { return a.areApart(all[k], all[other]) }
	return pick(all, best(len(all), apart, func(list []int) int { return len(list) })), api.OK
}

// Must returns the hands without which none explain a watch.
func Must(w Watch) ([]int, api.Errno) {
	a, e := workTrue(w)
	if e != api.OK {
		return nil, e
	}
	return a.handsThat(func(hand int) bool { return a.without(hand).clashes() }), api.OK
}

// Can returns the hands that have taken something in some truth.
func Can(w Watch) ([]int, api.Errno) {
	a, e := workTrue(w)
	if e != api.OK {
		return nil, e
	}
	return a.handsThat(a.canHaveTaken), api.OK
}
