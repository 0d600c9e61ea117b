package stock

import "staddle/api"

// Check returns the error of a yard.
func Check(y Yard) api.Errno {
	switch {
	case !within(y.Days, 1, MaxDays), !within(len(y.Bins), 1, MaxBins), len(y.Moves) > MaxMoves, len(y.Levels) > MaxLevels:
		return api.ErrMany
	case !every(y.Bins, isBin), !every(y.Moves, isMoved), !every(y.Levels, isMeasured):
		return api.ErrRange
	case !every(y.Moves, y.hasEnds), !every(y.Levels, y.hasPlace):
		return api.ErrNot
	case !every(y.Moves, goesOn):
		return api.ErrTwice
	case !y.isInOrder():
		return api.ErrOrder
	}
	return api.OK
}

// checkWith returns the error of a yard, then that of a thing of it, by its number.
func checkWith(y Yard, number int, has func(number int) bool) api.Errno {
	if e := Check(y); e != api.OK {
		return e
	}
	if !has(number) {
		return api.ErrNot
	}
	return api.OK
}

// checkSacks returns the errors that come before those of what a bin can have: of the yard, the bin and the number.
func checkSacks(y Yard, bin, sacks int) api.Errno {
	if e := checkWith(y, bin, y.hasBin); e != api.OK {
		return e
	}
	if !isSacks(sacks) {
		return api.ErrRange
	}
	return api.OK
}

// checkAmounts returns the error of a yard, then that of amounts for it.
func checkAmounts(y Yard, a Amounts) api.Errno {
	if e := Check(y); e != api.OK {
		return e
	}
	switch {
	case len(a.First) != len(y.Bins), len(a.Moved) != len(y.Moves):
		return api.ErrMany
	case !every(a.First, isSacks), !every(a.Moved, isSacks):
		return api.ErrRange
	}
	return api.OK
}

func isSacks(n int) bool { return within(n, 0, MaxSacks) }

// isSpan reports whether both ends of a span are allowed, in whichever order they are.
func isSpan(s api.Span) bool { return isSacks(s.Lo) && isSacks(s.Hi) }

func isBin(b Bin) bool { return isSacks(b.Holds) && isSpan(b.First) }

func isMoved(m Move) bool { return isSpan(m.Sacks) }

func isMeasured(l Level) bool { return isSpan(l.Sacks) }

// goesOn reports whether a move ends elsewhere than it begins.
func goesOn(m Move) bool { return m.From != m.To }

func (y Yard) hasBin(bin int) bool { return within(bin, 0, len(y.Bins)-1) }

func (y Yard) hasMove(move int) bool { return within(move, 0, len(y.Moves)-1) }

func (y Yard) hasLevel(level int) bool { return within(level, 0, len(y.Levels)-1) }

func (y Yard) hasDay(day int) bool { return within(day, 0, y.Days-1) }

// hasTime reports whether a time is the beginning of a day, or the end of the last one.
func (y Yard) hasTime(time int) bool { return within(time, 0, y.Days) }

// isEnd reports whether grain can come from there, or go there.
func (y Yard) isEnd(bin int) bool { return bin == Outside || y.hasBin(bin) }

func (y Yard) hasEnds(m Move) bool { return y.hasDay(m.Day) && y.isEnd(m.From) && y.isEnd(m.To) }

func (y Yard) hasPlace(l Level) bool { return y.hasTime(l.Day) && y.hasBin(l.Bin) }

func (y Yard) hasCell(c Cell) bool { return y.hasDay(c.Day) && y.hasBin(c.Bin) }

// isInOrder reports whether no span of a yard has its ends the wrong way round.
func (y Yard) isInOrder() bool {
	return every(y.Bins, func(b Bin) bool { return !isEmpty(b.First) }) &&
		every(y.Moves, func(m Move) bool { return !isEmpty(m.Sacks) }) &&
		every(y.Levels, func(l Level) bool { return !isEmpty(l.Sacks) })
}
