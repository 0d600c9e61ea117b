package loan

import (
	"slices"

	"staddle/api"
)

// copied returns the same debts in memory of their own.
func (d Debts) copied() Debts {
	same := make(Debts, len(d))
	for who, row := range d {
		same[who] = slices.Clone(row)
	}
	return same
}

// owed returns the debts of a ledger.
func (w ledgerAtWork) owed() Debts {
	d := make(Debts, w.Folk)
	for who := range d {
		d[who] = make([]int, w.Folk)
		d[who][granary] = w.owes(who, w.last())
	}
	for _, p := range w.Promises {
		d[p.From][p.To] += p.Bushels
	}
	return d
}

// nets returns the nets of all people.
func (d Debts) nets() []int {
	nets := make([]int, len(d))
	for from, row := range d {
		for to, bushels := range row {
			nets[from] -= bushels
			nets[to] += bushels
		}
	}
	return nets
}

// Owed returns the debts of a ledger.
func Owed(l Ledger) (Debts, api.Errno) {
	w, e := work(l, true)
	if e != api.OK {
		return nil, e
	}
	return w.owed(), api.OK
}

// Net returns the nets of all people.
func Net(d Debts) ([]int, api.Errno) {
	if e := CheckDebts(d); e != api.OK {
		return nil, e
	}
	return d.nets(), api.OK
}
