package weevil

import (
	"slices"

	"staddle/api"
)

// houseSeen is a house at work, with which of its sights are Seen, and the bins of which sights are reached in time by weevils
// that come from each bin alone.
type houseSeen struct {
	houseAtWork
	seen    set
	reaches [MaxBins]set
}

// withSights returns a house at work with what its sights tell.
func (w houseAtWork) withSights() houseSeen {
	h := houseSeen{houseAtWork: w}
	for sight, s := range w.Sights {
		if s.Seen {
			h.seen = h.seen.with(sight)
		}
		for bin := range w.Bins {
			if w.reachedBy(only(bin), s.Week).has(s.Bin) {
				h.reaches[bin] = h.reaches[bin].with(sight)
			}
		}
	}
	return h
}

// workSeen begins to work on a house and its sights: the errors of Check.
func workSeen(h House) (houseSeen, api.Errno) {
	w, e := work(h)
	if e != api.OK {
		return houseSeen{}, e
	}
	return w.withSights(), api.OK
}

// workBy begins to work on a house whose sights do not clash, and a week: the errors of Check, then ErrRange, then ErrClash.
func workBy(h House, week int) (houseSeen, api.Errno) {
	w, e := workSeen(h)
	switch {
	case e != api.OK:
		return houseSeen{}, e
	case !isWeek(week):
		return houseSeen{}, api.ErrRange
	case w.clash(w.sights()):
		return houseSeen{}, api.ErrClash
	}
	return w, api.OK
}

// workAgreed begins to work on a house whose sights do not clash: the errors of Check, then ErrClash. Week 0 is always allowed.
func workAgreed(h House) (houseSeen, api.Errno) { return workBy(h, 0) }

// sights returns the set of all sights.
func (w houseSeen) sights() set { return allBelow(len(w.Sights)) }

// explains reports whether a list of bins explains some sights. Weevils have reached a bin if those that come from one of the
// list alone have.
func (w houseSeen) explains(from, sights set) bool {
	var reached set
	for _, bin := range from.list() {
		reached |= w.reaches[bin]
	}
	return reached&sights == w.seen&sights
}

// cleared returns the bins that some sights clear.
func (w houseSeen) cleared(sights set) set {
	return w.binsThat(func(bin int) bool { return w.reaches[bin].meets(sights.less(w.seen)) })
}

// suspects returns the bins that some sights do not clear. Each list of bins that explains these sights is a part of them, and
// if there is such a list, they are one: the more bins weevils come from, the more of what was seen they reach.
func (w houseSeen) suspects(sights set) set { return allBelow(w.Bins).less(w.cleared(sights)) }

// clash reports whether some sights clash.
func (w houseSeen) clash(sights set) bool { return !w.explains(w.suspects(sights), sights) }

// areOrigins reports whether a list of bins explains all sights.
func (w houseSeen) areOrigins(from set) bool { return w.explains(from, w.sights()) }

// areApart reports whether some sights are all Seen, and any two of them are apart.
func (w houseSeen) areApart(sights set) bool {
	return sights.less(w.seen) == 0 && every(w.suspects(w.sights()).list(), func(bin int) bool {
		return (w.reaches[bin] & sights).size() <= 1
	})
}

// mustReach reports whether weevils have reached a bin in at most so many weeks whatever their origins are: whether there are
// no origins among the bins from which they have not.
func (w houseSeen) mustReach(bin, week int) bool {
	far := w.binsThat(func(from int) bool { return !w.reachedBy(only(from), week).has(bin) })
	return !w.areOrigins(far & w.suspects(w.sights()))
}

// Weeks returns the weeks in which bins are reached.
func Weeks(h House, from []int) ([]int, api.Errno) {
	w, e := workFrom(h, from)
	if e != api.OK {
		return nil, e
	}
	found := w.weeksFrom(w.from)
	return slices.Clone(found[:w.Bins]), api.OK
}

// Explains reports whether a list of bins explains all sights.
func Explains(h House, from []int) (bool, api.Errno) {
	w, e := workFrom(h, from)
	if e != api.OK {
		return false, e
	}
	return w.withSights().areOrigins(w.from), api.OK
}

// Cleared returns the bins that are cleared.
func Cleared(h House) ([]int, api.Errno) {
	w, e := workSeen(h)
	if e != api.OK {
		return nil, e
	}
	return w.cleared(w.sights()).list(), api.OK
}

// Origins returns origins with as few bins as can be.
func Origins(h House) ([]int, api.Errno) {
	w, e := workAgreed(h)
	if e != api.OK {
		return nil, e
	}
	return fewestOf(w.Bins, w.areOrigins).list(), api.OK
}

// Apart returns as many sights as can be any two of which are apart.
func Apart(h House) ([]int, api.Errno) {
	w, e := workAgreed(h)
	if e != api.OK {
		return nil, e
	}
	return mostOf(len(w.Sights), w.areApart).list(), api.OK
}

// Surely returns the bins that were reached in so many weeks whatever the origins are.
func Surely(h House, week int) ([]int, api.Errno) {
	w, e := workBy(h, week)
	if e != api.OK {
		return nil, e
	}
	return w.binsThat(func(bin int) bool { return w.mustReach(bin, week) }).list(), api.OK
}

// Perhaps returns the bins that were reached in so many weeks with some origins.
func Perhaps(h House, week int) ([]int, api.Errno) {
	w, e := workBy(h, week)
	if e != api.OK {
		return nil, e
	}
	return w.reachedBy(w.suspects(w.sights()), week).list(), api.OK
}

// Clash returns as few sights as can be that clash.
func Clash(h House) ([]int, api.Errno) {
	w, e := workSeen(h)
	switch {
	case e != api.OK:
		return nil, e
	case !w.clash(w.sights()):
		return nil, api.ErrNone
	}
	return fewestOf(len(w.Sights), w.clash).list(), api.OK
}
