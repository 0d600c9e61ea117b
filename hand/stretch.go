package hand

import (
	"slices"

	"staddle/api"
)

// booked returns the bookings of a stretch, added.
func (w Watch) booked(s Stretch) int {
	n := 0
	for _, b := range w.Bookings {
		if w.Counts[s.From].Hour < b.Hour && b.Hour <= w.Counts[s.To].Hour {
			n += b.Sacks
		}
	}
	return n
}

// allowed returns the most that can be lost in a stretch.
func (w Watch) allowed(s Stretch) int {
	return w.Allow * (w.Counts[s.To].Hour - w.Counts[s.From].Hour)
}

// gap returns that of a stretch.
func (w Watch) gap(s Stretch) int {
	return w.Counts[s.From].Sacks.Lo + w.booked(s) - w.allowed(s) - w.Counts[s.To].Sacks.Hi
}

// gaps returns those of stretches, added.
func (w Watch) gaps(list []Stretch) int {
	n := 0
	for _, s := range list {
		n += w.gap(s)
	}
	return n
}

func (w Watch) isShort(s Stretch) bool { return w.gap(s) > 0 }

// change returns by how many sacks at least and at most what lies there is more at the end of a stretch than at its beginning.
// If one is there that may have taken something, all that can lie there may be gone.
func (w watchAtWork) change(s Stretch) api.Span {
	n := w.booked(s)
	if w.isShut(s) {
		return api.Span{Lo: n - w.allowed(s), Hi: n}
	}
	return api.Span{Lo: -MaxSacks, Hi: n}
}

// clash returns the first stretch which shows that there is no truth in which just those have taken something that may have, or
// Stretch{} if there is one. It is enough to ask each two counts, as all that bounds one by another goes by the counts between
// them.
func (w watchAtWork) clash() Stretch {
	var found Stretch
search:
	for s := range w.stretches() {
		from, to, change := w.Counts[s.From].Sacks, w.Counts[s.To].Sacks, w.change(s)
		switch {
		case from.Hi+change.Hi < to.Lo, from.Lo+change.Lo > to.Hi:
			found = s
			break search
		}
	}
	return found
}

// clashes reports whether there is no truth in which just those have taken something that may have.
func (w watchAtWork) clashes() bool { return w.clash() != Stretch{} }

// within returns the least and the greatest number of sacks of a count in truths, of which there must be one.
func (w watchAtWork) within(count int) api.Span {
	sacks := w.Counts[count].Sacks
	for s := range w.stretches() {
		from, to, change := w.Counts[s.From].Sacks, w.Counts[s.To].Sacks, w.change(s)
		switch count {
		case s.To:
			sacks = meet(sacks, api.Span{Lo: from.Lo + change.Lo, Hi: from.Hi + change.Hi})
		case s.From:
			sacks = meet(sacks, api.Span{Lo: to.Lo - change.Hi, Hi: to.Hi - change.Lo})
		}
	}
	return sacks
}

// short returns all short stretches.
func (w watchAtWork) short() []Stretch { return those(slices.Collect(w.stretches()), w.isShort) }

// liesIn reports whether a stretch lies within another one.
func (s Stretch) liesIn(other Stretch) bool {
	return s != other && other.From <= s.From && s.To <= other.To
}

// smallest returns the short stretches within which no other one lies.
func (w watchAtWork) smallest() []Stretch {
	short := w.short()
	return those(short, func(s Stretch) bool {
		return every(short, func(other Stretch) bool { return !other.liesIn(s) })
	})
}

// Booked returns the bookings of a stretch, added.
func Booked(w Watch, s Stretch) (int, api.Errno) {
	a, e := workIn(w, s)
	if e != api.OK {
		return 0, e
	}
	return a.booked(s), api.OK
}

// Gap returns that of a stretch.
func Gap(w Watch, s Stretch) (int, api.Errno) {
	a, e := workIn(w, s)
	if e != api.OK {
		return 0, e
	}
	return a.gap(s), api.OK
}

// There returns the hands that are there in a stretch.
func There(w Watch, s Stretch) ([]int, api.Errno) {
	a, e := workIn(w, s)
	if e != api.OK {
		return nil, e
	}
	return a.there[s], api.OK
}

// Short returns all short stretches.
func Short(w Watch) ([]Stretch, api.Errno) {
	a, e := work(w)
	if e != api.OK {
		return nil, e
	}
	return a.short(), api.OK
}

// Smallest returns the short stretches that are smallest.
func Smallest(w Watch) ([]Stretch, api.Errno) {
	a, e := work(w)
	if e != api.OK {
		return nil, e
	}
	return a.smallest(), api.OK
}

// Clashes returns the first stretch which shows that a watch clashes.
func Clashes(w Watch) (Stretch, api.Errno) {
	a, e := work(w)
	switch {
	case e != api.OK:
		return Stretch{}, e
	case !a.clashes():
		return Stretch{}, api.ErrNone
	}
	return a.clash(), api.OK
}

// Within returns the least and the greatest number of sacks of a count.
func Within(w Watch, count int) (api.Span, api.Errno) {
	a, e := workWith(w, count, w.hasCount)
	switch {
	case e != api.OK:
		return api.Span{}, e
	case a.clashes():
		return api.Span{}, api.ErrClash
	}
	return a.within(count), api.OK
}
