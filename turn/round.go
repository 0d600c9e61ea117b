package turn

import "staddle/api"

// Rounds returns as few rounds as can be.
func Rounds(b Barn, gangs int) ([][]Turning, api.Errno) {
	a, e := workBy(b, gangs)
	if e != api.OK {
		return nil, e
	}
	rounds, _, e := a.best()
	return rounds, e
}

// Least returns the least number of rounds.
func Least(b Barn, gangs int) (int, api.Errno) {
	rounds, e := Rounds(b, gangs)
	return len(rounds), e
}

// Works reports whether rounds make a barn right.
func Works(b Barn, gangs int, rounds [][]Turning) (bool, api.Errno) {
	a, e := workBy(b, gangs)
	if e != api.OK {
		return false, e
	}
	course, e := a.course(rounds)
	if e != api.OK {
		return false, e
	}
	return a.isRight(course[len(rounds)]), api.OK
}
