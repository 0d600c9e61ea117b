package gate

import "staddle/api"

// price returns what is paid for a pound of a grade, or of none.
func (g Gate) price(grade int) int {
	if grade == None {
		return 0
	}
	return g.Grades[grade].Price
}

// Weight returns the least and the greatest weight of a kind.
func Weight(g Gate, c Cart, k Kind) (api.Span, api.Errno) {
	at, e := arrive(g, c)
	if e != api.OK {
		return api.Span{}, e
	}
	if !isKind(k) {
		return api.Span{}, api.ErrNot
	}
	b := at.bounds()
	if b.empty() {
		return api.Span{}, api.ErrClash
	}
	net := at.net()
	return api.Span{Lo: net.Lo * b[k].Lo / Whole, Hi: net.Hi * b[k].Hi / Whole}, api.OK
}

// Pay returns the least and the greatest pay for a cart.
func Pay(g Gate, c Cart) (api.Span, api.Errno) {
	at, _, e := arriveFitting(g, c)
	if e != api.OK {
		return api.Span{}, e
	}
	prices := api.Span{Lo: MaxPrice, Hi: 0}
	for _, grade := range at.can() {
		prices.Lo = min(prices.Lo, g.price(grade))
		prices.Hi = greatest(prices.Hi, g.price(grade))
	}
	net := at.net()
	return api.Span{Lo: net.Lo * prices.Lo, Hi: net.Hi * prices.Hi}, api.OK
}
