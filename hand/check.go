package hand

import (
	"slices"

	"staddle/api"
)

// Check returns the error of a watch.
func Check(w Watch) api.Errno {
	switch {
	case !w.hasNumbers():
		return api.ErrMany
	case !w.isInRange():
		return api.ErrRange
	case !every(w.Spells, w.hasHolder):
		return api.ErrNot
	case !w.isInOrder():
		return api.ErrOrder
	}
	return api.OK
}

// hasNumbers reports whether a watch has as many things of each kind as are allowed.
func (w Watch) hasNumbers() bool {
	return within(w.Hands, 1, MaxHands) && within(len(w.Counts), 1, MaxCounts) &&
		len(w.Bookings) <= MaxBookings && len(w.Spells) <= MaxSpells
}

// isInRange reports whether all numbers of a watch are allowed that do not name anything.
func (w Watch) isInRange() bool {
	return within(w.Hours, 1, MaxHours) && within(w.Allow, 0, MaxAllow) &&
		every(w.Counts, func(c Count) bool { return w.hasHour(c.Hour) && isSacks(c.Sacks.Lo) && isSacks(c.Sacks.Hi) }) &&
		every(w.Bookings, func(b Booking) bool { return w.hasHour(b.Hour) && isBooked(b.Sacks) }) &&
		every(w.Spells, func(s Spell) bool { return w.hasHour(s.From) && w.hasHour(s.To) })
}

// isInOrder reports whether the counts of a watch are, and the ends of each span and each spell.
func (w Watch) isInOrder() bool {
	for i := range w.Counts {
		if i > 0 && w.Counts[i-1].Hour >= w.Counts[i].Hour {
			return false
		}
	}
	return every(w.Counts, func(c Count) bool { return c.Sacks.Lo <= c.Sacks.Hi }) &&
		every(w.Spells, func(s Spell) bool { return s.From < s.To })
}

func isSacks(n int) bool { return within(n, 0, MaxSacks) }

func isBooked(n int) bool { return n != 0 && within(n, -MaxBooked, MaxBooked) }

func (w Watch) hasHour(hour int) bool { return within(hour, 0, w.Hours) }

func (w Watch) hasHand(hand int) bool { return within(hand, 0, w.Hands-1) }

func (w Watch) hasCount(count int) bool { return within(count, 0, len(w.Counts)-1) }

// hasHolder reports whether the hand of a spell is one of the watch.
func (w Watch) hasHolder(s Spell) bool { return w.hasHand(s.Hand) }

// errorOf returns the error of a stretch.
func (w Watch) errorOf(s Stretch) api.Errno {
	switch {
	case !w.hasCount(s.From), !w.hasCount(s.To):
		return api.ErrNot
	case s.From >= s.To:
		return api.ErrOrder
	}
	return api.OK
}

// errorOfHands returns the error of a list of hands. As all of them are hands of the watch, one of the first few is listed twice
// if the list is long.
func (w Watch) errorOfHands(hands []int) api.Errno {
	if !every(hands, w.hasHand) {
		return api.ErrNot
	}
	for i, hand := range hands {
		if slices.Contains(hands[:i], hand) {
			return api.ErrTwice
		}
	}
	return api.OK
}
