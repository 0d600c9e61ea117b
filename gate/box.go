package gate

import "staddle/api"

// box says from how many to how many parts each kind has. It stands for all mixtures with such parts.
type box [kinds]api.Span

// nothing returns the span that has no number, in the one form in which such spans are kept.
func nothing() api.Span { return api.Span{Lo: 1, Hi: 0} }

// meet returns the numbers that two spans have in common.
func meet(a, b api.Span) api.Span {
	both := api.Span{Lo: greatest(a.Lo, b.Lo), Hi: min(a.Hi, b.Hi)}
	if both.Lo > both.Hi {
		return nothing()
	}
	return both
}

// anyParts returns the box of all mixtures.
func anyParts() box {
	var b box
	for k := range kinds {
		b[k] = api.Span{Lo: 0, Hi: Whole}
	}
	return b
}

// meet returns the parts that two boxes have in common.
func (b box) meet(other box) box {
	for k, s := range other {
		b[k] = meet(b[k], s)
	}
	return b
}

// empty reports whether some kind has no number of parts. A narrow box that is not empty has a mixture.
func (b box) empty() bool {
	for _, s := range b {
		if s == nothing() {
			return true
		}
	}
	return false
}

// holds reports whether a mixture has such parts.
func (b box) holds(m [4]int) bool {
	for k, s := range b {
		if !within(m[k], s.Lo, s.Hi) {
			return false
		}
	}
	return true
}

// narrow returns the least box of the same mixtures: both ends of each of its spans are parts of one of them.
func (b box) narrow() box {
	for {
		n := b.leaveRoom()
		if n == b {
			return b
		}
		b = n
	}
}

// leaveRoom lets each kind have only what the others can make whole.
func (b box) leaveRoom() box {
	least, most := 0, 0
	for _, s := range b {
		least += s.Lo
		most += s.Hi
	}
	n := b
	for k, s := range b {
		n[k] = meet(s, api.Span{Lo: Whole - (most - s.Hi), Hi: Whole - (least - s.Lo)})
	}
	return n
}

// mixture returns a mixture of a narrow box that is not empty.
func (b box) mixture() [4]int {
	var m [4]int
	for k, s := range b {
		m[k] = s.Lo
	}
	rest := Whole - sum(m)
	for k, s := range b {
		more := min(rest, s.Hi-s.Lo)
		m[k] += more
		rest -= more
	}
	return m
}
