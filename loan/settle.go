package loan

import (
	"slices"

	"staddle/api"
)

// settled returns the promises that settle the nets of a group, if they are kept. Each of them is as great as can be without
// making anybody pay or get too much, so that it settles one of the two people at least, and the last one both.
func (a debtsAtWork) settled(group []int) []Promise {
	var kept []Promise
	left := slices.Clone(a.net)
	for {
		pays := slices.IndexFunc(group, func(who int) bool { return left[who] < 0 })
		gets := slices.IndexFunc(group, func(who int) bool { return left[who] > 0 })
		if pays < 0 || gets < 0 {
			return kept
		}
		p := Promise{From: group[pays], To: group[gets]}
		p.Bushels = least(-left[p.From], left[p.To])
		left[p.From] += p.Bushels
		left[p.To] -= p.Bushels
		kept = append(kept, p)
	}
}

// Settle returns a settlement with as few payments as can be.
func Settle(d Debts) ([]Promise, api.Errno) {
	a, e := workOn(d)
	if e != api.OK {
		return nil, e
	}
	var kept []Promise
	for _, group := range a.groups() {
		kept = append(kept, a.settled(group)...)
	}
	return kept, api.OK
}

// Fewest returns the least number of payments of a settlement.
func Fewest(d Debts) (int, api.Errno) {
	a, e := workOn(d)
	if e != api.OK {
		return 0, e
	}
	return len(a.uneven()) - len(a.groups()), api.OK
}

// Settles reports whether a list is a settlement.
func Settles(d Debts, l []Promise) (bool, api.Errno) {
	if e := CheckDebts(d); e != api.OK {
		return false, e
	}
	if e := d.errorOfSettlement(l); e != api.OK {
		return false, e
	}
	nets := d.nets()
	for _, p := range l {
		nets[p.From] += p.Bushels
		nets[p.To] -= p.Bushels
	}
	return every(nets, func(n int) bool { return n == 0 }), api.OK
}
