package loan

import "staddle/api"

// booked is what was booked to each loan.
type booked [MaxLoans]int

// part returns what of some bushels is booked to a loan: none if there is nothing to book.
func (w ledgerAtWork) part(loan, bushels int, b booked) Part {
	n := least(bushels, w.asked(loan)-b[loan])
	if n == 0 {
		return Part{}
	}
	return Part{Loan: loan, Bushels: n}
}

// book books a payment after those before it, and returns its parts, and what is over.
func (w ledgerAtWork) book(p Payment, b *booked) ([]Part, int) {
	var parts []Part
	over := p.Bushels
	for loan := range w.counting(w.lentBy(p.Year)).loansOf(p.Who) {
		if part := w.part(loan, over, *b); part != (Part{}) {
			parts = append(parts, part)
			b[loan] += part.Bushels
			over -= part.Bushels
		}
	}
	return parts, over
}

// bookedBy returns what was booked to loans by payments, in their order.
func (w ledgerAtWork) bookedBy(payments []Payment) booked {
	var b booked
	for _, p := range payments {
		w.book(p, &b)
	}
	return b
}

// bookedIn returns what was booked to loans at the end of a year.
func (w ledgerAtWork) bookedIn(year int) booked {
	count := len(below(len(w.Payments), func(payment int) bool { return w.Payments[payment].Year <= year }))
	return w.bookedBy(w.Payments[:count])
}

// owes returns what is left at the end of a year of the loans to somebody that count.
func (w ledgerAtWork) owes(who, year int) int {
	sum := 0
	for loan := range w.loansOf(who) {
		sum += w.left(loan, year)
	}
	return sum
}

// Booked returns how much of a payment is booked to which loans, and what is over.
func Booked(l Ledger, payment int) ([]Part, int, api.Errno) {
	w, e := work(l, l.hasPayment(payment))
	if e != api.OK {
		return nil, 0, e
	}
	before := w.bookedBy(w.Payments[:payment])
	parts, over := w.book(w.Payments[payment], &before)
	return parts, over, api.OK
}

// Owes returns what somebody owes at the end of a year.
func Owes(l Ledger, who, year int) (int, api.Errno) {
	w, e := work(l, l.hasPerson(who) && l.hasYear(year))
	if e != api.OK {
		return 0, e
	}
	return w.owes(who, year), api.OK
}

// Overdue returns what is overdue of what somebody owes at the end of a year.
func Overdue(l Ledger, who, year int) (int, api.Errno) {
	w, e := work(l, l.hasPerson(who) && l.hasYear(year))
	if e != api.OK {
		return 0, e
	}
	return w.counting(w.dueBy(year)).owes(who, year), api.OK
}
