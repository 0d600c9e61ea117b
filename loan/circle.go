package loan

import (
	"slices"

	"staddle/api"
)

// owedBy returns to whom somebody owes something, in increasing order.
func (d Debts) owedBy(who int) []int {
	return below(len(d), func(to int) bool { return isOwed(d[who][to]) })
}

// around returns what each one owes to the next one, and the last one to the first one.
func (d Debts) around(people []int) []int {
	debts := make([]int, len(people))
	for i, from := range people {
		to := people[(i+1)%len(people)]
		debts[i] = d[from][to]
	}
	return debts
}

// circle returns a circle, or nothing if no debt leads back to who owes it.
func (d Debts) circle() []int {
	var follow func(way []int) []int
	follow = func(way []int) []int {
		for _, next := range d.owedBy(way[len(way)-1]) {
			if next == way[0] {
				return way
			}
			if slices.Contains(way, next) {
				continue
			}
			if circle := follow(withOneMore(way, next)); circle != nil {
				return circle
			}
		}
		return nil
	}
	var circle []int
search:
	for from := range d {
		for _, to := range d.owedBy(from) {
			circle = follow([]int{from, to})
			if circle != nil {
				break search
			}
		}
	}
	return circle
}

// cancelled returns debts in which each debt of a circle is less by the least of them, so that at least one of them is gone.
func (d Debts) cancelled(circle []int) Debts {
	debts := d.around(circle)
	n := least(debts[0], debts[1:]...)
	less := d.copied()
	for i, from := range circle {
		to := circle[(i+1)%len(circle)]
		less[from][to] -= n
	}
	return less
}

// Circle returns a circle.
func Circle(d Debts) ([]int, api.Errno) {
	if e := CheckDebts(d); e != api.OK {
		return nil, e
	}
	circle := d.circle()
	if circle == nil {
		return nil, api.ErrNone
	}
	return circle, api.OK
}

// Cancel returns debts in which each debt of a circle is less by the least of them.
func Cancel(d Debts, circle []int) (Debts, api.Errno) {
	if e := CheckDebts(d); e != api.OK {
		return nil, e
	}
	if e := d.errorOfCircle(circle); e != api.OK {
		return nil, e
	}
	return d.cancelled(circle), api.OK
}

// Straight returns debts without a circle.
func Straight(d Debts) (Debts, api.Errno) {
	if e := CheckDebts(d); e != api.OK {
		return nil, e
	}
	straight := d.copied()
	for circle := straight.circle(); circle != nil; circle = straight.circle() {
		straight = straight.cancelled(circle)
	}
	return straight, api.OK
}
