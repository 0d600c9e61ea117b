package turn

import "staddle/api"

// singly returns the turnings of a plan as rounds.
func singly(plan []Turning) [][]Turning {
	rounds := make([][]Turning, len(plan))
	for i := range plan {
		rounds[i] = plan[i : i+1]
	}
	return rounds
}

// course returns the places at first, and after each round: ErrMany, then the first error of a round.
func (a barnAtWork) course(rounds [][]Turning) ([]places, api.Errno) {
	if len(rounds) > MaxPlan {
		return nil, api.ErrMany
	}
	p := a.first()
	course := []places{p}
	for _, round := range rounds {
		if e := a.errorOf(p, round); e != api.OK {
			return nil, e
		}
		p = p.after(round)
		course = append(course, p)
	}
	return course, api.OK
}

// workAlong begins to work on a barn and a plan, whose course it returns: the errors of Check, then those of the plan.
func workAlong(b Barn, plan []Turning) (barnAtWork, []places, api.Errno) {
	a, e := work(b)
	if e != api.OK {
		return barnAtWork{}, nil, e
	}
	course, e := a.course(singly(plan))
	if e != api.OK {
		return barnAtWork{}, nil, e
	}
	return a, course, api.OK
}

// sacks returns the number of sacks that turnings move.
func (b Barn) sacks(turnings []Turning) int {
	sum := 0
	for _, t := range turnings {
		sum += b.Lots[t.Lot].Sacks
	}
	return sum
}

// After returns the barn after a plan.
func After(b Barn, plan []Turning) (Barn, api.Errno) {
	a, course, e := workAlong(b, plan)
	if e != api.OK {
		return Barn{}, e
	}
	after := a.apart()
	for lot := range len(after.Lots) {
		after.Lots[lot].In = course[len(plan)][lot]
	}
	return after, api.OK
}

// Makes reports whether a plan makes a barn right.
func Makes(b Barn, plan []Turning) (bool, api.Errno) {
	a, course, e := workAlong(b, plan)
	if e != api.OK {
		return false, e
	}
	return a.isRight(course[len(plan)]), api.OK
}

// Back returns the plan by which each lot is brought back.
func Back(b Barn, plan []Turning) ([]Turning, api.Errno) {
	_, course, e := workAlong(b, plan)
	if e != api.OK {
		return nil, e
	}
	var back []Turning
	for i := len(plan) - 1; i >= 0; i-- {
		back = append(back, course[i].bringing(plan[i].Lot))
	}
	return back, api.OK
}

// Sacks returns the number of sacks that a plan moves.
func Sacks(b Barn, plan []Turning) (int, api.Errno) {
	a, _, e := workAlong(b, plan)
	if e != api.OK {
		return 0, e
	}
	return a.sacks(plan), api.OK
}
