package floor

import "staddle/api"

// Check returns the error of a floor.
func Check(f Floor) api.Errno {
	switch {
	case !f.hasNumbers(), !every(f.Bins, f.hasShares):
		return api.ErrMany
	case !every(f.Bears, isBorne), !every(f.Bins, isBin), !every(f.Turnings, isMuch):
		return api.ErrRange
	case !every(f.Turnings, f.hasBoth), !every(f.Rules, f.isFor):
		return api.ErrNot
	case !every(f.Turnings, isMove):
		return api.ErrTwice
	case !every(f.Bins, isShared), !f.hasEnough():
		return api.ErrWrong
	case f.clashes():
		return api.ErrClash
	}
	return api.OK
}

// errorOf returns the error of an order.
func (w *floorAtWork) errorOf(order []int) api.Errno {
	if len(order) != len(w.Turnings) {
		return api.ErrMany
	}
	if !every(order, w.hasTurning) {
		return api.ErrNot
	}
	var done set
	late := false
	for _, turning := range order {
		if done.has(turning) {
			return api.ErrTwice
		}
		late = late || !done.hasAll(w.ahead[turning])
		done = done.with(turning)
	}
	if late {
		return api.ErrOrder
	}
	return api.OK
}

// hasNumbers reports whether a floor has as many things of each kind as are allowed.
func (f Floor) hasNumbers() bool {
	return within(len(f.Bears), 1, MaxBays) && len(f.Bins) <= MaxBins && len(f.Turnings) <= MaxTurnings && len(f.Rules) <= MaxRules
}

// hasShares reports whether a bin has a share for each bay.
func (f Floor) hasShares(b Bin) bool { return len(b.Shares) == len(f.Bears) }

func isBorne(n int) bool { return within(n, 0, MaxBears) }

func isShare(n int) bool { return within(n, 0, Quarters) }

func isBin(b Bin) bool { return within(b.Has, 0, MaxSacks) && every(b.Shares, isShare) }

func isMuch(t Turning) bool { return within(t.Sacks, 1, MaxSacks) }

// isPlace reports whether a number is that of a bin, or of what is outside.
func (f Floor) isPlace(n int) bool { return within(n, Outside, len(f.Bins)-1) }

func (f Floor) hasBoth(t Turning) bool { return f.isPlace(t.From) && f.isPlace(t.To) }

func (f Floor) hasBay(bay int) bool { return within(bay, 0, len(f.Bears)-1) }

func (f Floor) hasTurning(turning int) bool { return within(turning, 0, len(f.Turnings)-1) }

// isFor reports whether a rule is for turnings that there are.
func (f Floor) isFor(r Rule) bool { return f.hasTurning(r.First) && f.hasTurning(r.Then) }

func isMove(t Turning) bool { return t.From != t.To }

func isShared(b Bin) bool { return sum(b.Shares) == Quarters }

// hasEnough reports whether no more sacks are moved from any bin than it has at first.
func (f Floor) hasEnough() bool {
	for k, bin := range f.Bins {
		moved := 0
		for _, t := range f.Turnings {
			if t.From == k {
				moved += t.Sacks
			}
		}
		if moved > bin.Has {
			return false
		}
	}
	return true
}

// clashes reports whether a turning is ahead of itself.
func (f Floor) clashes() bool {
	for turning, ahead := range f.aheads() {
		if ahead.has(turning) {
			return true
		}
	}
	return false
}
