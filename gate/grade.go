package gate

import (
	"iter"

	"staddle/api"
)

// limits returns the parts that a grade asks for.
func (g Grade) limits() box {
	return box{
		Corn:   {Lo: g.Corn, Hi: Whole},
		Chaff:  {Lo: 0, Hi: g.Chaff},
		Stones: {Lo: 0, Hi: g.Stones},
		Damp:   {Lo: 0, Hi: g.Damp},
	}
}

// missing returns the parts of a kind that a grade does not ask for.
func (g Grade) missing(k int) api.Span {
	limit := g.limits()[k]
	if Kind(k) == Corn {
		return api.Span{Lo: 0, Hi: limit.Lo - 1}
	}
	return api.Span{Lo: limit.Hi + 1, Hi: Whole}
}

// yieldMissing yields boxes of all mixtures of a box that miss a limit of each of some grades, until it is told to stop.
func yieldMissing(b box, grades []Grade, yield func(box) bool) bool {
	if len(grades) == 0 {
		return yield(b.narrow())
	}
	for k := range kinds {
		less := b
		less[k] = meet(b[k], grades[0].missing(k))
		if !yieldMissing(less, grades[1:], yield) {
			return false
		}
	}
	return true
}

// boxes yields narrow boxes, some of them empty, of all mixtures that fit and have a grade: they miss those before it.
func (c cartAtGate) boxes(grade int) iter.Seq[box] {
	return func(yield func(box) bool) {
		b, before := c.bounds(), c.gate.Grades
		if grade != None {
			b, before = b.meet(before[grade].limits()), before[:grade]
		}
		yieldMissing(b, before, yield)
	}
}

// shown returns a mixture that fits for each grade that the cart can have, None included.
func (c cartAtGate) shown() map[int][4]int {
	shown := map[int][4]int{}
	for grade := None; grade < len(c.gate.Grades); grade++ {
		for b := range c.boxes(grade) {
			if !b.empty() {
				shown[grade] = b.mixture()
				break
			}
		}
	}
	return shown
}

// can returns the grades that the cart can have, and None last if it can have none.
func (c cartAtGate) can() []int {
	shown := c.shown()
	var list []int
	for grade := range c.gate.Grades {
		if _, ok := shown[grade]; ok {
			list = append(list, grade)
		}
	}
	if _, ok := shown[None]; ok {
		list = append(list, None)
	}
	return list
}

// Has returns the grade that a mixture has.
func Has(g Gate, m [4]int) (int, api.Errno) {
	if e := Check(g); e != api.OK {
		return 0, e
	}
	if e := checkMixture(m); e != api.OK {
		return 0, e
	}
	for i, grade := range g.Grades {
		if grade.limits().holds(m) {
			return i, api.OK
		}
	}
	return None, api.OK
}

// Can returns the grades that a cart can have.
func Can(g Gate, c Cart) ([]int, api.Errno) {
	at, _, e := arriveFitting(g, c)
	if e != api.OK {
		return nil, e
	}
	return at.can(), api.OK
}

// Sure returns the grade that a cart has for certain.
func Sure(g Gate, c Cart) (int, api.Errno) {
	at, _, e := arriveFitting(g, c)
	if e != api.OK {
		return 0, e
	}
	can := at.can()
	if len(can) != 1 {
		return 0, api.ErrNone
	}
	return can[0], api.OK
}

// Show returns a mixture that fits a cart, and has a grade.
func Show(g Gate, c Cart, grade int) ([4]int, api.Errno) {
	at, e := arrive(g, c)
	switch {
	case e != api.OK:
		return [4]int{}, e
	case !within(grade, None, len(g.Grades)-1):
		return [4]int{}, api.ErrNot
	case at.bounds().empty():
		return [4]int{}, api.ErrClash
	}
	m, ok := at.shown()[grade]
	if !ok {
		return [4]int{}, api.ErrNone
	}
	return m, api.OK
}
