package loan

import (
	"slices"

	"staddle/api"
)

// copied returns the same ledger in memory of its own.
func (l Ledger) copied() Ledger {
	l.Bad, l.Forgiven = slices.Clone(l.Bad), slices.Clone(l.Forgiven)
	l.Loans, l.Payments, l.Promises = slices.Clone(l.Loans), slices.Clone(l.Payments), slices.Clone(l.Promises)
	return l
}

// checked returns a ledger: the errors of Check.
func (l Ledger) checked() (Ledger, api.Errno) {
	if e := Check(l); e != api.OK {
		return Ledger{}, e
	}
	return l, api.OK
}

// Lend returns a ledger with one loan more.
func Lend(l Ledger, x Loan) (Ledger, api.Errno) {
	if e := Check(l); e != api.OK {
		return Ledger{}, e
	}
	if len(l.Loans) == MaxLoans {
		return Ledger{}, api.ErrFull
	}
	more := l.copied()
	more.Loans = withOneMore(l.Loans, x)
	return more.checked()
}

// Pay returns a ledger with one payment more.
func Pay(l Ledger, p Payment) (Ledger, api.Errno) {
	if e := Check(l); e != api.OK {
		return Ledger{}, e
	}
	if len(l.Payments) == MaxPayments {
		return Ledger{}, api.ErrFull
	}
	more := l.copied()
	more.Payments = withOneMore(l.Payments, p)
	return more.checked()
}

// Forgive returns a ledger in which a loan is forgiven, too.
func Forgive(l Ledger, loan int) (Ledger, api.Errno) {
	w, e := work(l, l.hasLoan(loan))
	if e != api.OK {
		return Ledger{}, e
	}
	if slices.Contains(w.Forgiven, loan) {
		return Ledger{}, api.ErrTwice
	}
	more := l.copied()
	more.Forgiven = withOneMore(l.Forgiven, loan)
	slices.Sort(more.Forgiven)
	return more, api.OK
}
