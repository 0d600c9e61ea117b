package floor

// set is turnings, a bit for each of them.
type set uint

// sets has a set for each turning.
type sets [MaxTurnings]set

func (s set) has(turning int) bool { return s>>turning&1 == 1 }

func (s set) with(turning int) set { return s | 1<<turning }

// hasAll reports whether all turnings of another set are in a set.
func (s set) hasAll(other set) bool { return s&other == other }

// list returns the turnings of a set in increasing order.
func (s set) list() []int {
	var list []int
	for turning := range MaxTurnings {
		if s.has(turning) {
			list = append(list, turning)
		}
	}
	return list
}

// aheads returns for each turning those that are ahead of it. Each time that the rules are gone through, those that are
// ahead by one rule more are found, too.
func (f Floor) aheads() sets {
	var ahead sets
	for {
		before := ahead
		for _, r := range f.Rules {
			ahead[r.Then] |= ahead[r.First].with(r.First)
		}
		if ahead == before {
			return ahead
		}
	}
}
