package bread

import (
	"iter"

	"staddle/api"
)

// townAtWork is a town with the harvests that may come in a state, and with the least Bads of the fates that were found.
type townAtWork struct {
	Town
	comes func(s State, bad bool) bool
	found map[State]int
}

// work begins to work on a town: the errors of Check.
func work(t Town) (townAtWork, api.Errno) {
	if e := Check(t); e != api.OK {
		return townAtWork{}, e
	}
	comes := func(s State, bad bool) bool { return !bad || s.Dry < t.Run }
	return townAtWork{Town: t, comes: comes, found: map[State]int{}}, api.OK
}

// workIn begins to work on a town in another state: the errors of Check, then that of the state.
func workIn(t Town, s State) (townAtWork, api.Errno) {
	if e := Check(t); e != api.OK {
		return townAtWork{}, e
	}
	t.Now = s
	return work(t)
}

// in returns the town in another state, for which the same fates are found.
func (w townAtWork) in(s State) townAtWork {
	w.Now = s
	return w
}

// states yields all states, those with less stock first.
func (t Town) states() iter.Seq[State] {
	return func(yield func(State) bool) {
		for stock := range t.Holds + 1 {
			for short := range t.Patience + 1 {
				for dry := range t.Run + 1 {
					if !yield(State{Stock: stock, Short: short, Dry: dry}) {
						return
					}
				}
			}
		}
	}
}

// isShort reports whether a ration is short.
func (t Town) isShort(ration int) bool { return t.Rations[ration].Sacks < t.Need }

// allows reports whether a ration is allowed now.
func (t Town) allows(ration int) bool {
	return t.Rations[ration].Sacks <= t.Now.Stock && (!t.isShort(ration) || t.Now.Short < t.Patience)
}

// allowed returns the rations that are allowed now, in increasing order.
func (t Town) allowed() []int { return below(len(t.Rations), t.allows) }

// next returns the state after a year.
func (t Town) next(ration int, bad bool) State {
	rest := t.Now.Stock - t.Rations[ration].Sacks
	// As what is lost is rounded up, what is kept is rounded down.
	kept := rest * (10 - t.Rot) / 10
	next := State{Stock: min(t.Holds, kept+t.Good)}
	if bad {
		next.Stock = min(t.Holds, kept+t.Bad)
		next.Dry = t.Now.Dry + 1
	}
	if t.isShort(ration) {
		next.Short = t.Now.Short + 1
	}
	return next
}

// nexts returns the states that can come after a ration: the one after a good harvest, then the one after a bad one, if that may
// come. So the number of each of them is that of its bad harvests.
func (w townAtWork) nexts(ration int) []State {
	var nexts []State
	for _, bad := range []bool{false, true} {
		if w.comes(w.Now, bad) {
			nexts = append(nexts, w.next(ration, bad))
		}
	}
	return nexts
}
