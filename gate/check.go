package gate

import "staddle/api"

// Check returns the error of a gate.
func Check(g Gate) api.Errno {
	switch {
	case len(g.Grades) > MaxGrades:
		return api.ErrMany
	case !within(g.Err, 0, MaxErr), !within(g.Miss, 0, MaxMiss), !every(g.Grades, isGrade):
		return api.ErrRange
	case !pricesFall(g.Grades):
		return api.ErrOrder
	}
	return api.OK
}

// CheckCart returns the error of a cart.
func CheckCart(c Cart) api.Errno {
	switch {
	case len(c.Handfuls) > MaxHandfuls:
		return api.ErrMany
	case !isReading(c.Full), !isReading(c.Empty), !every(c.Handfuls, isTaken):
		return api.ErrRange
	case !every(c.Handfuls, isEnough):
		return api.ErrWrong
	}
	return api.OK
}

// checkMixture returns the error of a mixture.
func checkMixture(m [4]int) api.Errno {
	switch {
	case !every(m[:], isParts):
		return api.ErrRange
	case sum(m) != Whole:
		return api.ErrWrong
	}
	return api.OK
}

// isGrade reports whether each number of a grade is allowed.
func isGrade(g Grade) bool {
	return every([]int{g.Corn, g.Chaff, g.Stones, g.Damp}, isParts) && within(g.Price, 0, MaxPrice)
}

// pricesFall reports whether no grade costs more than the one before it.
func pricesFall(grades []Grade) bool {
	for i := 1; i < len(grades); i++ {
		if grades[i].Price > grades[i-1].Price {
			return false
		}
	}
	return true
}

func isParts(n int) bool { return within(n, 0, Whole) }

func isReading(n int) bool { return within(n, 0, MaxWeight) }

func isGrains(n int) bool { return within(n, 0, MaxGrains) }

func isKind(k Kind) bool { return Corn <= k && k <= Damp }

// isTaken reports whether a handful is taken at a spot, and has numbers of grains.
func isTaken(h Handful) bool {
	return within(h.Spot, 0, spots-1) && every(h.Grains[:], isGrains)
}

// isEnough reports whether a handful has neither too few grains nor too many.
func isEnough(h Handful) bool { return within(sum(h.Grains), MinGrains, MaxGrains) }
