package loan

import (
	"slices"

	"staddle/api"
)

// Check returns the error of a ledger.
func Check(l Ledger) api.Errno {
	switch {
	case !l.hasNumbers():
		return api.ErrMany
	case !every(l.bushels(), areBushels):
		return api.ErrRange
	case !l.hasAllThatIsNamed():
		return api.ErrNot
	case !every(l.Promises, isToAnother):
		return api.ErrTwice
	case !l.isInOrder():
		return api.ErrOrder
	}
	return api.OK
}

// hasNumbers reports whether there are as many people, years, loans, payments and promises as may be.
func (l Ledger) hasNumbers() bool {
	return within(l.Folk, 1, MaxFolk) && within(l.Years, 1, MaxYears) &&
		len(l.Loans) <= MaxLoans && len(l.Payments) <= MaxPayments && len(l.Promises) <= MaxPromises
}

// bushels returns those of all loans, payments and promises.
func (l Ledger) bushels() []int {
	return slices.Concat(
		each(l.Loans, func(x Loan) int { return x.Bushels }),
		each(l.Payments, func(p Payment) int { return p.Bushels }),
		each(l.Promises, func(p Promise) int { return p.Bushels }),
	)
}

func areBushels(n int) bool { return within(n, 1, MaxBushels) }

func (l Ledger) hasPerson(who int) bool { return within(who, 0, l.Folk-1) }

func (l Ledger) hasYear(year int) bool { return within(year, 0, l.Years-1) }

func (l Ledger) hasLoan(loan int) bool { return within(loan, 0, len(l.Loans)-1) }

func (l Ledger) hasPayment(payment int) bool { return within(payment, 0, len(l.Payments)-1) }

// hasFarmer reports whether there is a person who is not the granary, and a year.
func (l Ledger) hasFarmer(who, year int) bool {
	return l.hasPerson(who) && who != granary && l.hasYear(year)
}

func (l Ledger) hasBorrower(x Loan) bool { return l.hasFarmer(x.Who, x.Year) }

func (l Ledger) hasPayer(p Payment) bool { return l.hasFarmer(p.Who, p.Year) }

// hasAllThatIsNamed reports whether there are all people, years and loans that are named.
func (l Ledger) hasAllThatIsNamed() bool {
	return every(l.Bad, l.hasYear) && every(l.Forgiven, l.hasLoan) && every(l.Loans, l.hasBorrower) &&
		every(l.Payments, l.hasPayer) && areBetween(l.Promises, l.hasPerson)
}

// areBetween reports whether the people of all promises are there.
func areBetween(promises []Promise, hasPerson func(who int) bool) bool {
	return every(promises, func(p Promise) bool { return hasPerson(p.From) && hasPerson(p.To) })
}

func isToAnother(p Promise) bool { return p.From != p.To }

// isInOrder reports whether bad years, loans that are forgiven, and payments are in their order.
func (l Ledger) isInOrder() bool {
	years := each(l.Payments, func(p Payment) int { return p.Year })
	return isIncreasing(l.Bad) && isIncreasing(l.Forgiven) && slices.IsSorted(years)
}

// CheckDebts returns the error of debts.
func CheckDebts(d Debts) api.Errno {
	switch {
	case !within(len(d), 1, MaxFolk), !every(d, d.isRow):
		return api.ErrMany
	case !every(slices.Concat(d...), isDebt):
		return api.ErrRange
	case d.hasDebtToOneself():
		return api.ErrTwice
	}
	return api.OK
}

func (d Debts) isRow(row []int) bool { return len(row) == len(d) }

func isDebt(n int) bool { return within(n, 0, MaxDebt) }

// hasDebtToOneself reports whether somebody owes something to the same person.
func (d Debts) hasDebtToOneself() bool {
	for who := range d {
		if d[who][who] > 0 {
			return true
		}
	}
	return false
}

func (d Debts) hasPerson(who int) bool { return within(who, 0, len(d)-1) }

// errorOfCircle returns the error of people who are said to be a circle.
func (d Debts) errorOfCircle(circle []int) api.Errno {
	switch {
	case len(circle) < 2:
		return api.ErrMany
	case !every(circle, d.hasPerson):
		return api.ErrNot
	case hasTwice(circle):
		return api.ErrTwice
	case !every(d.around(circle), isOwed):
		return api.ErrWrong
	}
	return api.OK
}

func isOwed(n int) bool { return n > 0 }

// errorOfSettlement returns the error of promises that are kept.
func (d Debts) errorOfSettlement(promises []Promise) api.Errno {
	switch {
	case !areBetween(promises, d.hasPerson):
		return api.ErrNot
	case !every(promises, isToAnother):
		return api.ErrTwice
	case !every(promises, isSettled):
		return api.ErrRange
	}
	return api.OK
}

func isSettled(p Promise) bool { return within(p.Bushels, 1, MaxSettled) }

// errorOfGroups returns the error of lists of people which are said to be groups.
func (a debtsAtWork) errorOfGroups(groups [][]int) api.Errno {
	switch {
	case !every(groups, a.hasPeople):
		return api.ErrNot
	case !every(groups, isInGroupOrder):
		return api.ErrOrder
	case !a.areWhole(groups), !every(groups, a.isEven):
		return api.ErrWrong
	}
	return api.OK
}

func (d Debts) hasPeople(list []int) bool { return every(list, d.hasPerson) }

func isInGroupOrder(group []int) bool { return len(group) > 0 && isIncreasing(group) }
