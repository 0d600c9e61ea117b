package loan

import (
	"slices"

	"staddle/api"
)

// people is a set of people: each one has a bit.
type people uint

func (p people) has(who int) bool { return p>>who&1 == 1 }

// together returns the set of all people of a list.
func together(list []int) people {
	var set people
	for _, who := range list {
		set |= 1 << who
	}
	return set
}

// debtsAtWork is debts with the nets of all people, and with the sum of the nets of each set of people.
type debtsAtWork struct {
	Debts
	net  []int
	sums map[people]int
}

// workOn begins to work on debts: the errors of CheckDebts.
func workOn(d Debts) (debtsAtWork, api.Errno) {
	if e := CheckDebts(d); e != api.OK {
		return debtsAtWork{}, e
	}
	net := d.nets()
	return debtsAtWork{Debts: d, net: net, sums: sumsOf(net)}, api.OK
}

// sumsOf returns the sum of the nets of each set of people.
func sumsOf(net []int) map[people]int {
	sums := map[people]int{}
	for set := range people(1) << len(net) {
		for who, n := range net {
			if set.has(who) {
				sums[set] += n
			}
		}
	}
	return sums
}

// members returns all people of a set, in increasing order.
func (a debtsAtWork) members(set people) []int { return below(len(a.Debts), set.has) }

// uneven returns all people whose net is not 0, in increasing order.
func (a debtsAtWork) uneven() []int {
	return below(len(a.Debts), func(who int) bool { return a.net[who] != 0 })
}

// isEven reports whether the nets of a list of people add up to 0.
func (a debtsAtWork) isEven(list []int) bool { return a.sums[together(list)] == 0 }

// areWhole reports whether everybody whose net is not 0 is in exactly one of some lists, and nobody else.
func (a debtsAtWork) areWhole(lists [][]int) bool {
	all := slices.Concat(lists...)
	slices.Sort(all)
	return slices.Equal(all, a.uneven())
}

// parted returns as many groups as can be in exactly one of which everybody of a set is. As the first one of the set is in one of
// them, it is enough to ask which one this is.
func (a debtsAtWork) parted(set people) [][]int {
	first := set & -set
	var most [][]int
	for group := range set + 1 {
		if group&^set != 0 || group&first == 0 || a.sums[group] != 0 {
			continue
		}
		groups := append([][]int{a.members(group)}, a.parted(set&^group)...)
		if len(groups) > len(most) {
			most = groups
		}
	}
	return most
}

// groups returns as many groups as can be that are whole.
func (a debtsAtWork) groups() [][]int { return a.parted(together(a.uneven())) }

// Groups returns as many groups as can be that are whole.
func Groups(d Debts) ([][]int, api.Errno) {
	a, e := workOn(d)
	if e != api.OK {
		return nil, e
	}
	return a.groups(), api.OK
}

// Shows returns with how many payments debts can be settled, by groups.
func Shows(d Debts, groups [][]int) (int, api.Errno) {
	a, e := workOn(d)
	if e != api.OK {
		return 0, e
	}
	if e := a.errorOfGroups(groups); e != api.OK {
		return 0, e
	}
	return len(a.uneven()) - len(groups), api.OK
}
