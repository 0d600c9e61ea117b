package loan

import (
	"iter"

	"staddle/api"
)

// ledgerAtWork is a ledger with the loans that count.
type ledgerAtWork struct {
	Ledger
	counts func(loan int) bool
}

// work begins to work on a ledger, all loans of which count: the errors of Check, then ErrNot unless it has what is asked for.
func work(l Ledger, has bool) (ledgerAtWork, api.Errno) {
	if e := Check(l); e != api.OK {
		return ledgerAtWork{}, e
	}
	if !has {
		return ledgerAtWork{}, api.ErrNot
	}
	return ledgerAtWork{Ledger: l, counts: func(int) bool { return true }}, api.OK
}

// counting returns the ledger with other loans that count.
func (w ledgerAtWork) counting(counts func(loan int) bool) ledgerAtWork {
	w.counts = counts
	return w
}

// loansOf yields the loans of a person that count, the oldest one first: by their years, then by their numbers.
func (w ledgerAtWork) loansOf(who int) iter.Seq[int] {
	return func(yield func(loan int) bool) {
		for year := range w.Years {
			for loan, x := range w.Loans {
				if x.Who == who && x.Year == year && w.counts(loan) && !yield(loan) {
					return
				}
			}
		}
	}
}
