package stock

import "staddle/api"

// choice tells which levels count.
type choice [MaxLevels]bool

// with returns a choice in which a level counts too.
func (c choice) with(level int) choice {
	c[level] = true
	return c
}

// without returns a choice in which listed levels do not count.
func (c choice) without(levels []int) choice {
	for _, l := range levels {
		c[l] = false
	}
	return c
}

// chosen returns the choice of listed levels.
func chosen(levels []int) choice {
	var c choice
	for _, l := range levels {
		c = c.with(l)
	}
	return c
}

// all returns the choice of all levels of a yard.
func (y Yard) all() choice {
	var c choice
	for l := range y.Levels {
		c = c.with(l)
	}
	return c
}

// agree reports whether chosen levels do.
func (y Yard) agree(c choice) bool { return work(y, c).fill() }

// hasTwice reports whether a list has a level twice, which leaves a choice as it was.
func hasTwice(levels []int) bool {
	var c choice
	for _, l := range levels {
		more := c.with(l)
		if more == c {
			return true
		}
		c = more
	}
	return false
}

// fewest returns the first list of as few levels as can be that is as it is asked to be, or no list and false.
func (y Yard) fewest(is func(levels []int) bool) ([]int, bool) {
	for size := range len(y.Levels) + 1 {
		for _, list := range lists(len(y.Levels), size) {
			if is(list) {
				return list, true
			}
		}
	}
	return nil, false
}

// Agree reports whether the listed levels agree.
func Agree(y Yard, levels []int) (bool, api.Errno) {
	if e := Check(y); e != api.OK {
		return false, e
	}
	switch {
	case !every(levels, y.hasLevel):
		return false, api.ErrNot
	case hasTwice(levels):
		return false, api.ErrTwice
	}
	return y.agree(chosen(levels)), api.OK
}

// Clash returns as few levels as can be that clash.
func Clash(y Yard) ([]int, api.Errno) {
	if e := Check(y); e != api.OK {
		return nil, e
	}
	if y.agree(y.all()) {
		return nil, api.ErrNone
	}
	list, _ := y.fewest(func(levels []int) bool { return !y.agree(chosen(levels)) })
	return list, api.OK
}

// Wrong returns as few levels as can be without which all others agree.
func Wrong(y Yard) ([]int, api.Errno) {
	if e := Check(y); e != api.OK {
		return nil, e
	}
	list, ok := y.fewest(func(levels []int) bool { return y.agree(y.all().without(levels)) })
	if !ok {
		return nil, api.ErrClash
	}
	return list, api.OK
}
