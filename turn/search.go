package turn

import (
	"maps"
	"slices"

	"staddle/api"
)

// cheapest returns the least cost at which places wait, of which there must be some.
func cheapest(waiting map[int][]places) int {
	costs := slices.Collect(maps.Keys(waiting))
	return least(costs[0], costs[1:]...)
}

// goOn reaches all places that come next after some, and lets those wait that were not reached at so little cost before.
func (a barnAtWork) goOn(p places, waiting map[int][]places) {
	for _, round := range a.rounds(p) {
		next := p.after(round)
		cost := a.reached[p].cost + a.costs(round)
		if s, ok := a.reached[next]; !ok || cost < s.cost {
			a.reached[next] = step{before: p, cost: cost}
			waiting[cost] = append(waiting[cost], next)
		}
	}
}

// search goes on from the barn as it is, from the least cost on, until it comes to places that are as they are asked to be. It
// returns these, and whether there are any. As each round costs something, all places that wait at the least cost are known.
// Places for which a cheaper way was found while they waited wait twice, and lead to nothing more the second time.
func (a barnAtWork) search(are func(p places) bool) (places, bool) {
	first := a.first()
	a.reached[first] = step{before: first}
	waiting := map[int][]places{0: {first}}
	var found places
	ok := false
search:
	for len(waiting) > 0 {
		cost := cheapest(waiting)
		for _, p := range waiting[cost] {
			if are(p) {
				found, ok = p, true
				break search
			}
			a.goOn(p, waiting)
		}
		delete(waiting, cost)
	}
	return found, ok
}

// way returns the rounds by which places were reached.
func (a barnAtWork) way(p places) [][]Turning {
	var rounds [][]Turning
	for p != a.first() {
		before := a.reached[p].before
		rounds = append(rounds, a.between(before, p))
		p = before
	}
	slices.Reverse(rounds)
	return rounds
}

// best returns the rounds that make the barn right at the least cost, and this cost: ErrClash.
func (a barnAtWork) best() ([][]Turning, int, api.Errno) {
	p, ok := a.search(a.isRight)
	if !ok {
		return nil, 0, api.ErrClash
	}
	return a.way(p), a.reached[p].cost, api.OK
}

// Fewest returns the least number of turnings.
func Fewest(b Barn) (int, api.Errno) {
	plan, e := Plan(b)
	return len(plan), e
}

// Plan returns a plan with the fewest turnings.
func Plan(b Barn) ([]Turning, api.Errno) {
	a, e := work(b)
	if e != api.OK {
		return nil, e
	}
	rounds, _, e := a.best()
	return slices.Concat(rounds...), e
}

// Lightest returns a plan that moves as few sacks as can be, and this number.
func Lightest(b Barn) ([]Turning, int, api.Errno) {
	a, e := work(b)
	if e != api.OK {
		return nil, 0, e
	}
	a.costs = a.sacks
	rounds, sacks, e := a.best()
	return slices.Concat(rounds...), sacks, e
}

// Places returns the number of ways in which the lots can lie.
func Places(b Barn) (int, api.Errno) {
	a, e := work(b)
	if e != api.OK {
		return 0, e
	}
	a.search(func(places) bool { return false })
	return len(a.reached), api.OK
}
