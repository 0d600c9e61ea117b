package bread

import "staddle/api"

// lasting is how many bad harvests each state lasts, by its stock.
type lasting [MaxHolds + 1][MaxRow + 1][MaxRow + 1]int

func (l *lasting) of(s State) int { return l[s.Stock][s.Short][s.Dry] }

func (l *lasting) set(s State, bads int) { l[s.Stock][s.Short][s.Dry] = bads }

// everywhere returns the same number for each state.
func (t Town) everywhere(bads int) lasting {
	var l lasting
	for s := range t.states() {
		l.set(s, bads)
	}
	return l
}

// lastsAfter returns how many bad harvests the town lasts after a ration, if the states that come next last so many.
func (w townAtWork) lastsAfter(ration int, l *lasting) int {
	lasts := Ever
	for bads, next := range w.nexts(ration) {
		lasts = least(lasts, l.of(next)+bads)
	}
	return lasts
}

// longest returns how many bad harvests the town lasts, if the states that come next last so many.
func (w townAtWork) longest(l *lasting) int {
	longest := Never
	for _, ration := range w.allowed() {
		longest = max(longest, w.lastsAfter(ration, l))
	}
	return longest
}

// lasting returns how many bad harvests each state lasts. All of them last Ever until a year shows that they do not, so that
// just those remain which last for all years to come.
func (w townAtWork) lasting() lasting {
	l := w.everywhere(Ever)
	for {
		before := l
		for s := range w.states() {
			l.set(s, w.in(s).longest(&l))
		}
		if l == before {
			return l
		}
	}
}

// workFed begins to work on a town that lasts, and returns how many bad harvests its states last: the errors of Check, then ErrNone
// if it lasts Never.
func workFed(t Town) (townAtWork, lasting, api.Errno) {
	w, e := work(t)
	if e != api.OK {
		return townAtWork{}, lasting{}, e
	}
	l := w.lasting()
	if l.of(w.Now) == Never {
		return townAtWork{}, lasting{}, api.ErrNone
	}
	return w, l, api.OK
}

// best returns the rations after which the town lasts as long.
func (w townAtWork) best(l *lasting) []int {
	return below(len(w.Rations), func(ration int) bool {
		return w.allows(ration) && w.lastsAfter(ration, l) == l.of(w.Now)
	})
}

// Lasts returns the greatest number of bad harvests that a town lasts.
func Lasts(t Town) (int, api.Errno) { return From(t, t.Now) }

// From returns that which a state lasts.
func From(t Town, s State) (int, api.Errno) {
	w, e := workIn(t, s)
	if e != api.OK {
		return 0, e
	}
	l := w.lasting()
	return l.of(s), api.OK
}

// Choose returns the rations after which the town lasts as long.
func Choose(t Town) ([]int, api.Errno) {
	w, l, e := workFed(t)
	if e != api.OK {
		return nil, e
	}
	return w.best(&l), api.OK
}

// Needs returns the least stock with which the town lasts a number of bad harvests.
func Needs(t Town, bads int) (int, api.Errno) {
	w, e := work(t)
	if e != api.OK {
		return 0, e
	}
	if !within(bads, 0, Ever) {
		return 0, api.ErrRange
	}
	l := w.lasting()
	for stock := range w.Holds + 1 {
		if l[stock][w.Now.Short][w.Now.Dry] >= bads {
			return stock, api.OK
		}
	}
	return 0, api.ErrNone
}
