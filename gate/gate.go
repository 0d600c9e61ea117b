// Package gate takes in carts of grain: what they weigh, of which mixtures they can be, which grades they can have and
// what is paid for them. It is layer 1: see shared/doc/01-gate.md.
package gate

import "staddle/api"

// The kinds of grains.
const (
	Corn Kind = iota
	Chaff
	Stones
	Damp
)

// No grade, and the limits of layer 1.
const (
	None        = -1
	Whole       = 40
	MinGrains   = 10
	MaxGrains   = 200
	MaxMiss     = 20
	MaxErr      = 50
	MaxWeight   = 10000
	MaxHandfuls = 6
	MaxGrades   = 4
	MaxPrice    = 100
)

// kinds and spots say how many of them there are.
const (
	kinds = 4
	spots = 3
)

// Kind is a kind of grains.
type Kind int

// Handful is grains that were taken at a spot of a cart, by kinds.
type Handful struct {
	Spot   int
	Grains [4]int
}

// Cart is what a cart reads full and empty, and handfuls of it.
type Cart struct {
	Full, Empty int
	Handfuls    []Handful
}

// Grade is limits of the kinds, and a price for a pound.
type Grade struct{ Corn, Chaff, Stones, Damp, Price int }

// Gate is by how much weighings and handfuls err, and grades.
type Gate struct {
	Err, Miss int
	Grades    []Grade
}

// cartAtGate is a cart with the gate at which it is, and with those of its handfuls that count.
type cartAtGate struct {
	Cart
	gate   Gate
	counts func(handful int) bool
}

// hasHandful reports whether there is such a handful.
func (c Cart) hasHandful(handful int) bool {
	return within(handful, 0, len(c.Handfuls)-1)
}

// arrive brings a cart to a gate, where all its handfuls count, if nothing is wrong with either.
func arrive(g Gate, c Cart) (cartAtGate, api.Errno) {
	if e := Check(g); e != api.OK {
		return cartAtGate{}, e
	}
	if e := CheckCart(c); e != api.OK {
		return cartAtGate{}, e
	}
	return cartAtGate{Cart: c, gate: g, counts: c.hasHandful}, api.OK
}

// net returns the span of the net weight. Both readings can err, so it is four times Err wide.
func (c cartAtGate) net() api.Span {
	read := c.Full - c.Empty
	return api.Span{Lo: greatest(0, read-2*c.gate.Err), Hi: greatest(0, read+2*c.gate.Err)}
}

// Net returns the least and the greatest net weight.
func Net(g Gate, c Cart) (api.Span, api.Errno) {
	at, e := arrive(g, c)
	if e != api.OK {
		return api.Span{}, e
	}
	return at.net(), api.OK
}

// Take returns a cart with one handful more.
func Take(c Cart, h Handful) (Cart, api.Errno) {
	if e := CheckCart(c); e != api.OK {
		return Cart{}, e
	}
	n := len(c.Handfuls)
	if n == MaxHandfuls {
		return Cart{}, api.ErrFull
	}
	more := make([]Handful, n+1)
	copy(more, c.Handfuls)
	more[n] = h
	taken := Cart{Full: c.Full, Empty: c.Empty, Handfuls: more}
	if e := CheckCart(taken); e != api.OK {
		return Cart{}, e
	}
	return taken, api.OK
}
