package loan

import (
	"slices"

	"staddle/api"
)

// first returns the first year, from some year on, that is as it is asked to be, or Never.
func (l Ledger) first(from int, is func(year int) bool) int {
	for year := range l.Years {
		if year >= from && is(year) {
			return year
		}
	}
	return Never
}

// last returns the last year.
func (l Ledger) last() int { return l.Years - 1 }

// asked returns what is asked for a loan.
func (l Ledger) asked(loan int) int {
	if slices.Contains(l.Forgiven, loan) {
		return 0
	}
	n := l.Loans[loan].Bushels
	// The tenth is rounded up.
	return n + (n+9)/10
}

// due returns the year in which a loan is due, or Never.
func (l Ledger) due(loan int) int {
	return l.first(l.Loans[loan].Year, func(year int) bool { return !slices.Contains(l.Bad, year) })
}

// lentBy tells which loans were lent in a year or before.
func (l Ledger) lentBy(year int) func(loan int) bool {
	return func(loan int) bool { return l.Loans[loan].Year <= year }
}

// dueBy tells which loans are due in a year or before.
func (l Ledger) dueBy(year int) func(loan int) bool {
	return func(loan int) bool { return within(l.due(loan), 0, year) }
}

// left returns what is left of a loan at the end of a year.
func (w ledgerAtWork) left(loan, year int) int {
	if w.Loans[loan].Year > year {
		return 0
	}
	return w.asked(loan) - w.bookedIn(year)[loan]
}

// Asked returns what is asked for a loan.
func Asked(l Ledger, loan int) (int, api.Errno) {
	w, e := work(l, l.hasLoan(loan))
	if e != api.OK {
		return 0, e
	}
	return w.asked(loan), api.OK
}

// Due returns the year in which a loan is due.
func Due(l Ledger, loan int) (int, api.Errno) {
	w, e := work(l, l.hasLoan(loan))
	if e != api.OK {
		return 0, e
	}
	return w.due(loan), api.OK
}

// Left returns what is left of a loan at the end of a year.
func Left(l Ledger, loan, year int) (int, api.Errno) {
	w, e := work(l, l.hasLoan(loan) && l.hasYear(year))
	if e != api.OK {
		return 0, e
	}
	return w.left(loan, year), api.OK
}

// Paid returns the first year at the end of which nothing is left of a loan. The search ends when all is booked that ever is.
func Paid(l Ledger, loan int) (int, api.Errno) {
	w, e := work(l, l.hasLoan(loan))
	if e != api.OK {
		return 0, e
	}
	end := w.bookedIn(w.last())
	year := w.first(w.Loans[loan].Year, func(year int) bool { return w.left(loan, year) == 0 || w.bookedIn(year) == end })
	if w.left(loan, year) > 0 {
		return 0, api.ErrNone
	}
	return year, api.OK
}
