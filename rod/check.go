package rod

import "staddle/api"

// Check returns the error of a bin.
func Check(b Bin) api.Errno {
	switch {
	case !isSide(b.Cols), !isSide(b.Rows), len(b.Rods) > MaxRods:
		return api.ErrMany
	case !every(b.Rods, b.hasTip):
		return api.ErrNot
	case !every(b.Rods, isAllowed):
		return api.ErrRange
	}
	return api.OK
}

// checkHeats returns the error of a bin, then that of heats for it.
func checkHeats(b Bin, heats []int) api.Errno {
	if e := Check(b); e != api.OK {
		return e
	}
	switch {
	case len(heats) != b.Cols*b.Rows:
		return api.ErrMany
	case !every(heats, isHeat):
		return api.ErrRange
	}
	return api.OK
}

// checkTip returns the error of a tip in a bin that is allowed, then that of its Range.
func checkTip(b Bin, tip Cell, reach int) api.Errno {
	if !b.hasCell(tip) {
		return api.ErrNot
	}
	return checkReach(reach)
}

func checkReach(reach int) api.Errno {
	if !isReach(reach) {
		return api.ErrRange
	}
	return api.OK
}

func isSide(n int) bool { return within(n, 1, MaxSide) }

func isHeat(n int) bool { return within(n, 0, MaxHeat) }

func isReach(n int) bool { return within(n, 0, MaxRange) }

func isAllowed(r Rod) bool { return isReach(r.Range) && isHeat(r.Shows) }

func (b Bin) hasCell(c Cell) bool { return within(c.Col, 0, b.Cols-1) && within(c.Row, 0, b.Rows-1) }

func (b Bin) hasTip(r Rod) bool { return b.hasCell(r.Tip) }

func (b Bin) hasRod(rod int) bool { return within(rod, 0, len(b.Rods)-1) }
