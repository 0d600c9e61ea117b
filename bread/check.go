package bread

import "staddle/api"

// Check returns the error of a town.
func Check(t Town) api.Errno {
	switch {
	case !within(len(t.Rations), 1, MaxRations):
		return api.ErrMany
	case !t.hasNumbers(), !every(t.Rations, isRation), !t.hasState(t.Now):
		return api.ErrRange
	case t.Bad > t.Good, !t.sellsLessForMore():
		return api.ErrOrder
	}
	return api.OK
}

func isSacks(n int) bool { return within(n, 0, MaxHolds) }

func isInARow(n int) bool { return within(n, 0, MaxRow) }

func isRation(r Ration) bool { return isSacks(r.Sacks) && within(r.Price, 0, MaxPrice) }

// hasNumbers reports whether the numbers of a town itself are allowed.
func (t Town) hasNumbers() bool {
	return every([]int{t.Holds, t.Need, t.Good, t.Bad}, isSacks) && every([]int{t.Patience, t.Run}, isInARow) && within(t.Rot, 0, MaxRot)
}

// hasState reports whether the numbers of a state are allowed in a town.
func (t Town) hasState(s State) bool {
	return within(s.Stock, 0, t.Holds) && within(s.Short, 0, t.Patience) && within(s.Dry, 0, t.Run)
}

// sellsLessForMore reports whether each ration has fewer sacks than the one before it, at a higher price.
func (t Town) sellsLessForMore() bool {
	for ration := 1; ration < len(t.Rations); ration++ {
		before, r := t.Rations[ration-1], t.Rations[ration]
		if r.Sacks >= before.Sacks || r.Price <= before.Price {
			return false
		}
	}
	return true
}

func (t Town) hasRation(ration int) bool { return within(ration, 0, len(t.Rations)-1) }

// errorOf returns the error of a number: ErrNot if there is no such one, then ErrFull if it is not allowed.
func errorOf(n int, has, allows func(int) bool) api.Errno {
	switch {
	case !has(n):
		return api.ErrNot
	case !allows(n):
		return api.ErrFull
	}
	return api.OK
}

// errorOfRation returns the error of a ration now.
func (t Town) errorOfRation(ration int) api.Errno { return errorOf(ration, t.hasRation, t.allows) }

// errorOfYear returns the error of a ration now, then that of a harvest.
func (w townAtWork) errorOfYear(ration int, bad bool) api.Errno {
	if e := w.errorOfRation(ration); e != api.OK {
		return e
	}
	if !w.comes(w.Now, bad) {
		return api.ErrClash
	}
	return api.OK
}

// errorOfRow returns the error of a row.
func (w townAtWork) errorOfRow(r Row) api.Errno {
	if !w.hasState(r.State) || !within(r.Lasts, 0, Ever) {
		return api.ErrRange
	}
	return w.in(r.State).errorOfRation(r.Ration)
}

// errorOfFate returns the error of a fate.
func (w townAtWork) errorOfFate(f Fate) api.Errno {
	if !w.hasState(f.State) || !within(f.Bads, 0, Ever) {
		return api.ErrRange
	}
	return api.OK
}

// errorOfWants returns the error of sacks that are shared, and of what bakers want.
func errorOfWants(sacks int, wants []int) api.Errno {
	switch {
	case len(wants) > MaxBakers:
		return api.ErrMany
	case !isShare(sacks), !every(wants, isShare):
		return api.ErrRange
	}
	return api.OK
}

func isShare(n int) bool { return within(n, 0, MaxSacks) }
