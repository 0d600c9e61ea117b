package bread

import "staddle/api"

// season is a state, and how many years are left.
type season struct {
	state State
	years int
}

// earner returns a function that finds the most that is earned for certain from a state on, in the years that are left, or Never
// if no rule has a ration that is allowed in each of them.
func (w townAtWork) earner() func(season) int {
	known := map[season]int{}
	var earn func(at season) int
	earn = func(at season) int {
		if at.years == 0 {
			return 0
		}
		if sum, ok := known[at]; ok {
			return sum
		}
		most := Never
		now := w.in(at.state)
		for _, ration := range now.allowed() {
			var sums []int
			for _, next := range now.nexts(ration) {
				sums = append(sums, earn(season{state: next, years: at.years - 1}))
			}
			if worst := least(sums[0], sums[1:]...); worst != Never {
				most = max(most, worst+w.Rations[ration].earns())
			}
		}
		known[at] = most
		return most
	}
	return earn
}

// earns returns what the sacks of a ration are sold for.
func (r Ration) earns() int { return r.Sacks * r.Price }

// Earns returns the most that is earned for certain.
func Earns(t Town, years int) (int, api.Errno) {
	w, e := work(t)
	if e != api.OK {
		return 0, e
	}
	if !within(years, 0, MaxYears) {
		return 0, api.ErrRange
	}
	earn := w.earner()
	most := earn(season{state: w.Now, years: years})
	if most == Never {
		return 0, api.ErrNone
	}
	return most, api.OK
}
