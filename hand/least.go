package hand

import "staddle/api"

// heaviest returns those of some stretches whose gaps add up to the most, of which no two have one of some intervals in common.
// At least so much was taken in these intervals, if nothing can have been taken elsewhere in the stretches. In some truth it was
// no more: the least that is taken and the most that such gaps add up to are the two sides of one flow through the counts.
func (w watchAtWork) heaviest(all []Stretch, own intervals) []Stretch {
	apart := func(k, other int) bool { return !own.meet(all[k], all[other]) }
	return pick(all, best(len(all), apart, func(list []int) int { return w.gaps(pick(all, list)) }))
}

// isDueTo reports whether a stretch is short, and no other hand is there in it.
func (w watchAtWork) isDueTo(hand int, s Stretch) bool {
	return w.isShort(s) && w.without(hand).isShut(s)
}

// proof returns stretches that prove the least that a hand has taken.
func (w watchAtWork) proof(hand int) []Stretch {
	due := those(w.short(), func(s Stretch) bool { return w.isDueTo(hand, s) })
	return w.heaviest(due, w.isIn[hand])
}

// errorOfProof returns the error of stretches that are to prove what a hand has taken.
func (w watchAtWork) errorOfProof(hand int, l []Stretch) api.Errno {
	for _, s := range l {
		if e := w.errorOf(s); e != api.OK {
			return e
		}
		if !w.isDueTo(hand, s) {
			return api.ErrWrong
		}
	}
	var proved intervals
	for _, s := range l {
		if proved.in(s) != (intervals{}) {
			return api.ErrTwice
		}
		proved = proved.and(w.isIn[hand].in(s))
	}
	return api.OK
}

// workOn begins to work on a watch that does not clash, and a hand: the errors of Check, then ErrNot, then ErrClash.
func workOn(w Watch, hand int) (watchAtWork, api.Errno) {
	a, e := workWith(w, hand, w.hasHand)
	switch {
	case e != api.OK:
		return watchAtWork{}, e
	case a.clashes():
		return watchAtWork{}, api.ErrClash
	}
	return a, api.OK
}

// Least returns the least that a hand has taken.
func Least(w Watch, hand int) (int, api.Errno) {
	a, e := workOn(w, hand)
	if e != api.OK {
		return 0, e
	}
	return a.gaps(a.proof(hand)), api.OK
}

// Proof returns stretches that prove the least that a hand has taken.
func Proof(w Watch, hand int) ([]Stretch, api.Errno) {
	a, e := workOn(w, hand)
	if e != api.OK {
		return nil, e
	}
	return a.proof(hand), api.OK
}

// Proves returns what stretches prove that a hand has taken at least.
func Proves(w Watch, hand int, l []Stretch) (int, api.Errno) {
	a, e := workWith(w, hand, w.hasHand)
	if e != api.OK {
		return 0, e
	}
	if e := a.errorOfProof(hand, l); e != api.OK {
		return 0, e
	}
	return a.gaps(l), api.OK
}

// Missing returns the least that all hands have taken.
func Missing(w Watch) (int, api.Errno) {
	a, e := workTrue(w)
	if e != api.OK {
		return 0, e
	}
	var own intervals
	for _, some := range a.isIn {
		own = own.and(some)
	}
	return a.gaps(a.heaviest(a.short(), own)), api.OK
}
