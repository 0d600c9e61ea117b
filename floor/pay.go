package floor

import "staddle/api"

// amounts has a number of quarters for each turning.
type amounts [MaxTurnings]int

// paid is the payments from each turning to each other one. Where there is none it is as the one without anything.
type paid [MaxTurnings][MaxTurnings]Pay

// change makes a payment greater, or less if the number is less than 0.
func (p *paid) change(from, to, much int) {
	one := Pay{From: from, To: to, Much: p[from][to].Much + much}
	if one.Much == 0 {
		one = Pay{}
	}
	p[from][to] = one
}

// list returns the payments that there are.
func (p *paid) list() []Pay {
	var all []Pay
	for _, row := range p {
		for _, one := range row {
			if one != (Pay{}) {
				all = append(all, one)
			}
		}
	}
	return all
}

// unpaid returns what each turning adds to a bay.
func (w *floorAtWork) unpaid(bay int) amounts {
	var a amounts
	for turning := range w.Turnings {
		a[turning] = max(0, w.adds[turning][bay])
	}
	return a
}

// unspent returns what each turning lessens a bay.
func (w *floorAtWork) unspent(bay int) amounts {
	var a amounts
	for turning := range w.Turnings {
		a[turning] = max(0, -w.adds[turning][bay])
	}
	return a
}

// payer returns a function that pays for a turning up to so many quarters of what is not spent yet, and returns how many,
// or 0 if there is no way to pay more. On a way a turning may pay for this one that has paid for another one, if the other
// one can be paid by a further one instead.
func (w *floorAtWork) payer(p *paid, unspent *amounts) func(from, much int) int {
	var tried set
	var follow func(from, much int) int
	spare := func(to, much int) int {
		for k := range len(w.Turnings) {
			if p[k][to] == (Pay{}) {
				continue
			}
			if n := follow(k, min(much, p[k][to].Much)); n > 0 {
				p.change(k, to, -n)
				return n
			}
		}
		return 0
	}
	follow = func(from, much int) int {
		for _, to := range w.ahead[from].list() {
			if tried.has(to) {
				continue
			}
			tried = tried.with(to)
			n := min(much, unspent[to])
			unspent[to] -= n
			if n == 0 {
				n = spare(to, much)
			}
			if n > 0 {
				p.change(from, to, n)
				return n
			}
		}
		return 0
	}
	return func(from, much int) int {
		tried = 0
		return follow(from, much)
	}
}

// payments returns payments for a bay by which as much is paid as can be. All that is not paid then is added by one whole
// set, in which all that is lessened is spent on what the set itself adds: the load after it is what the payments bound.
func (w *floorAtWork) payments(bay int) []Pay {
	var p paid
	unpaid, unspent := w.unpaid(bay), w.unspent(bay)
	pay := w.payer(&p, &unspent)
	for turning := range w.Turnings {
		for unpaid[turning] > 0 {
			n := pay(turning, unpaid[turning])
			if n == 0 {
				break
			}
			unpaid[turning] -= n
		}
	}
	return p.list()
}

// isNamed reports whether both turnings of a payment are turnings of the floor.
func (f Floor) isNamed(p Pay) bool { return f.hasTurning(p.From) && f.hasTurning(p.To) }

func isPaid(p Pay) bool { return p.Much >= 1 }

// isInOrder reports whether what pays is ahead of what it pays for.
func (w *floorAtWork) isInOrder(p Pay) bool { return w.ahead[p.From].has(p.To) }

// hold reports whether payments do for a bay. What is left to pay is asked before each payment, as the sum of payments that
// do not hold can be too great for an int.
func (w *floorAtWork) hold(bay int, pays []Pay) bool {
	unpaid, unspent := w.unpaid(bay), w.unspent(bay)
	for _, p := range pays {
		if p.Much > unpaid[p.From] || p.Much > unspent[p.To] {
			return false
		}
		unpaid[p.From] -= p.Much
		unspent[p.To] -= p.Much
	}
	return true
}

// bound returns what payments that hold bound.
func (w *floorAtWork) bound(bay int, pays []Pay) int {
	unpaid := w.unpaid(bay)
	n := w.first[bay] + sum(unpaid[:])
	for _, p := range pays {
		n -= p.Much
	}
	return n
}

// Payments returns payments that bound the greatest load of a bay.
func Payments(f Floor, bay int) ([]Pay, api.Errno) {
	w, e := workAt(f, bay)
	if e != api.OK {
		return nil, e
	}
	return w.payments(bay), api.OK
}

// Bounds returns what payments bound.
func Bounds(f Floor, bay int, pays []Pay) (int, api.Errno) {
	w, e := workAt(f, bay)
	if e != api.OK {
		return 0, e
	}
	switch {
	case !every(pays, w.isNamed):
		return 0, api.ErrNot
	case !every(pays, isPaid):
		return 0, api.ErrRange
	case !every(pays, w.isInOrder):
		return 0, api.ErrOrder
	case !w.hold(bay, pays):
		return 0, api.ErrWrong
	}
	return w.bound(bay, pays), api.OK
}
