package gate

import "staddle/api"

// lets returns the parts of a kind that differ from those of a handful by no more than Miss grains of it allow.
func (c cartAtGate) lets(h Handful, k int) api.Span {
	n := sum(h.Grains)
	least := greatest(0, Whole*(h.Grains[k]-c.gate.Miss))
	most := Whole * (h.Grains[k] + c.gate.Miss)
	roundedUp := (least + n - 1) / n
	return meet(api.Span{Lo: 0, Hi: Whole}, api.Span{Lo: roundedUp, Hi: most / n})
}

// letsAll returns the parts that a handful lets all kinds have.
func (c cartAtGate) letsAll(h Handful) box {
	var b box
	for k := range kinds {
		b[k] = c.lets(h, k)
	}
	return b
}

// bounds returns the narrow box of the mixtures that fit all handfuls that count.
func (c cartAtGate) bounds() box {
	b := anyParts()
	for i, h := range c.Handfuls {
		if c.counts(i) {
			b = b.meet(c.letsAll(h))
		}
	}
	return b.narrow()
}

// arriveFitting brings a cart to a gate, together with its bounds, if some mixture fits it.
func arriveFitting(g Gate, c Cart) (cartAtGate, box, api.Errno) {
	at, e := arrive(g, c)
	if e != api.OK {
		return cartAtGate{}, box{}, e
	}
	b := at.bounds()
	if b.empty() {
		return cartAtGate{}, box{}, api.ErrClash
	}
	return at, b, api.OK
}

// Lets returns the parts that a handful lets a kind have.
func Lets(g Gate, c Cart, handful int, k Kind) (api.Span, api.Errno) {
	at, e := arrive(g, c)
	if e != api.OK {
		return api.Span{}, e
	}
	if !at.hasHandful(handful) || !isKind(k) {
		return api.Span{}, api.ErrNot
	}
	s := at.lets(at.Handfuls[handful], int(k))
	if s == nothing() {
		return api.Span{}, api.ErrNone
	}
	return s, api.OK
}

// Fits reports whether a mixture fits a cart.
func Fits(g Gate, c Cart, m [4]int) (bool, api.Errno) {
	at, e := arrive(g, c)
	if e != api.OK {
		return false, e
	}
	if e := checkMixture(m); e != api.OK {
		return false, e
	}
	return at.bounds().holds(m), api.OK
}

// Bounds returns the least and the greatest parts of all kinds.
func Bounds(g Gate, c Cart) ([4]api.Span, api.Errno) {
	_, b, e := arriveFitting(g, c)
	return b, e
}

// Mixture returns one that fits.
func Mixture(g Gate, c Cart) ([4]int, api.Errno) {
	_, b, e := arriveFitting(g, c)
	if e != api.OK {
		return [4]int{}, e
	}
	return b.mixture(), api.OK
}
