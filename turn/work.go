package turn

import (
	"iter"
	"slices"

	"staddle/api"
)

// places are the bins in which the lots are.
type places [MaxLots]int

// step tells from where places were reached, and at what cost from the first ones on.
type step struct {
	before places
	cost   int
}

// barnAtWork is a barn with the number of its gangs, what turnings cost that are done at once, and how the places were reached
// that were found.
type barnAtWork struct {
	Barn
	gangs   int
	costs   func(round []Turning) int
	reached map[places]step
}

// work begins to work on a barn with one gang, each of whose turnings costs 1: the errors of Check.
func work(b Barn) (barnAtWork, api.Errno) {
	if e := Check(b); e != api.OK {
		return barnAtWork{}, e
	}
	one := func([]Turning) int { return 1 }
	return barnAtWork{Barn: b, gangs: 1, costs: one, reached: map[places]step{}}, api.OK
}

// workWith begins to work on a barn and a lot of it: the errors of Check, then ErrNot.
func workWith(b Barn, lot int) (barnAtWork, api.Errno) {
	a, e := work(b)
	if e != api.OK {
		return barnAtWork{}, e
	}
	if !a.hasLot(lot) {
		return barnAtWork{}, api.ErrNot
	}
	return a, api.OK
}

// workBy begins to work on a barn with some gangs, each of whose rounds costs 1: the errors of Check, then ErrRange.
func workBy(b Barn, gangs int) (barnAtWork, api.Errno) {
	a, e := work(b)
	if e != api.OK {
		return barnAtWork{}, e
	}
	if !within(gangs, 1, MaxGangs) {
		return barnAtWork{}, api.ErrRange
	}
	a.gangs = gangs
	return a, api.OK
}

// first returns the places of the barn as it is.
func (a barnAtWork) first() places {
	var p places
	for lot := range len(a.Lots) {
		p[lot] = a.Lots[lot].In
	}
	return p
}

// isFree reports whether no lot is in a bin.
func (a barnAtWork) isFree(p places, bin int) bool { return !slices.Contains(p[:len(a.Lots)], bin) }

// isRight reports whether each lot that should be in a bin is there.
func (a barnAtWork) isRight(p places) bool {
	for lot, l := range a.Lots {
		if l.To != Anywhere && l.To != p[lot] {
			return false
		}
	}
	return true
}

// binsThat returns the bins that are as they are asked to be, in increasing order.
func (b Barn) binsThat(are func(bin int) bool) []int { return below(len(b.Sizes), are) }

// lotsThat returns the lots that are as they are asked to be, in increasing order.
func (b Barn) lotsThat(are func(lot int) bool) []int { return below(len(b.Lots), are) }

// turnings yields the turnings that can be done, by their lots, then by their bins.
func (a barnAtWork) turnings(p places) iter.Seq[Turning] {
	return func(yield func(Turning) bool) {
		for lot := range len(a.Lots) {
			for bin := range len(a.Sizes) {
				t := Turning{Lot: lot, To: bin}
				if a.isFree(p, bin) && a.fits(t) && !yield(t) {
					return
				}
			}
		}
	}
}

// canFollow reports whether a turning can be done at once with another one of a lesser lot, if each of them can.
func (t Turning) canFollow(other Turning) bool { return t.Lot > other.Lot && t.To != other.To }

// rounds returns all lists of turnings that can be done at once, but the one of none, which leads nowhere.
func (a barnAtWork) rounds(p places) [][]Turning {
	var rounds [][]Turning
	var choose func(round []Turning)
	choose = func(round []Turning) {
		for t := range a.turnings(p) {
			if !every(round, t.canFollow) {
				continue
			}
			more := append(slices.Clone(round), t)
			rounds = append(rounds, more)
			if len(more) < a.gangs {
				choose(more)
			}
		}
	}
	choose(nil)
	return rounds
}

// after returns the places after turnings.
func (p places) after(round []Turning) places {
	for _, t := range round {
		p[t.Lot] = t.To
	}
	return p
}

// bringing returns the turning that brings a lot into the bin in which it is.
func (p places) bringing(lot int) Turning { return Turning{Lot: lot, To: p[lot]} }

// between returns the turnings, done at once, that lead from places to others.
func (a barnAtWork) between(p, next places) []Turning {
	var round []Turning
	for lot := range len(a.Lots) {
		if t := next.bringing(lot); t != p.bringing(lot) {
			round = append(round, t)
		}
	}
	return round
}
