package loan_test

import (
	"math"
	"math/rand/v2"
	"slices"
	"testing"

	"staddle/api"
	"staddle/loan"
)

// deal deals people into lists in all ways, the first one of a list being put there before the others, and asks of each way.
func deal(people []int, dealt [][]int, ask func(dealt [][]int)) {
	if len(people) == 0 {
		ask(dealt)
		return
	}
	for k := range len(dealt) + 1 {
		more := copyLists(dealt)
		if k == len(dealt) {
			more = append(more, nil)
		}
		more[k] = append(more[k], people[0])
		deal(people[1:], more, ask)
	}
}

// sumOf is the sum of some nets.
func sumOf(nets, people []int) int {
	sum := 0
	for _, who := range people {
		sum += nets[who]
	}
	return sum
}

// mostGroups is the greatest number of groups that are whole, of all ways to deal people.
func mostGroups(nets []int) int {
	most := 0
	deal(notZero(nets), nil, func(dealt [][]int) {
		if !slices.ContainsFunc(dealt, func(l []int) bool { return sumOf(nets, l) != 0 }) {
			most = max(most, len(dealt))
		}
	})
	return most
}

// areWholeGroups says whether lists are groups that are whole, by the words of the chapter.
func areWholeGroups(nets []int, groups [][]int) bool {
	times := make([]int, len(nets))
	for _, g := range groups {
		if len(g) == 0 || sumOf(nets, g) != 0 {
			return false
		}
		for _, who := range g {
			times[who]++
		}
	}
	for who, n := range nets {
		if n == 0 && times[who] != 0 || n != 0 && times[who] != 1 {
			return false
		}
	}
	return true
}

// TestGroups names groups that there can be: as many, that are whole, are right, too.
func TestGroups(t *testing.T) {
	for _, x := range []struct {
		name string
		d    loan.Debts
		want [][]int
	}{
		{"the example", round(), lists(list(0, 2, 3))}, {"two", netting(3, -3, 5, -5), lists(list(0, 1), list(2, 3))}, {"two, across", netting(3, 5, -3, -5), lists(list(0, 2), list(1, 3))}, {"two, and somebody with none", netting(3, 0, 5, -3, -5), lists(list(0, 3), list(2, 4))},
		{"nobody", nothing(7), nil}, {"one person", nothing(1), nil}, {"two who owe the same", loan.Debts{list(0, 3), list(3, 0)}, nil}, {"all are one", netting(1, 2, 4, 8, 16, 32, -63), lists(list(0, 1, 2, 3, 4, 5, 6))},
		{"three of two", netting(1, 2, 4, -1, -2, -4), lists(list(0, 3), list(1, 4), list(2, 5))}, {"two of three", netting(1, 10, 2, 20, -3, -30), lists(list(0, 2, 4), list(1, 3, 5))}, {"the pairs first, as these are more", netting(2, -1, -1, 1, -2, 1), lists(list(0, 4), list(1, 3), list(2, 5))},
	} {
		got, e := loan.Groups(x.d)
		if e != api.OK || len(got) != len(x.want) || !areWholeGroups(netsOf(x.d), got) {
			t.Error(x.name, ": the groups are", got, e, "and could be", x.want)
		}
	}
}

func TestGroupsByTheWords(t *testing.T) {
	numbers := map[int]int{}
	debtTrials(t, 400, func(r *rand.Rand, d loan.Debts) {
		nets := netsOf(d)
		got, e := loan.Groups(d)
		if e != api.OK || !areWholeGroups(nets, got) || len(got) != mostGroups(nets) {
			t.Error("the groups of", d, "are", got, e, "and there should be", mostGroups(nets))
		}
		for _, g := range got {
			if !slices.IsSorted(g) {
				t.Error("the groups of", d, "are", got)
			}
		}
		numbers[len(got)]++
	})
	if numbers[0] < 50 || numbers[1] < 300 || numbers[2] < 200 || numbers[3] < 30 {
		t.Error("so many have as many groups:", numbers)
	}
}

func TestShows(t *testing.T) {
	pairs := netting(3, -3, 5, -5, 0)
	for _, x := range []struct {
		name   string
		d      loan.Debts
		groups [][]int
		n      int
		e      api.Errno
	}{
		{"the example", round(), lists(list(0, 2, 3)), 2, api.OK}, {"two", pairs, lists(list(0, 1), list(2, 3)), 2, api.OK}, {"in another order", pairs, lists(list(2, 3), list(0, 1)), 2, api.OK}, {"one group of all", pairs, lists(list(0, 1, 2, 3)), 3, api.OK}, {"no groups of nobody", nothing(3), nil, 0, api.OK}, {"none of one", nothing(1), lists(), 0, api.OK},
		{"no groups", pairs, nil, 0, api.ErrWrong}, {"people whose nets are not 0", pairs, lists(list(0, 2), list(1, 3)), 0, api.ErrWrong}, {"not all people", pairs, lists(list(0, 1)), 0, api.ErrWrong}, {"somebody whose net is 0", pairs, lists(list(0, 1, 4), list(2, 3)), 0, api.ErrWrong}, {"somebody whose net is 0, alone", pairs, lists(list(0, 1), list(2, 3), list(4)), 0, api.ErrWrong}, {"a group twice", pairs, lists(list(0, 1), list(2, 3), list(0, 1)), 0, api.ErrWrong}, {"somebody twice", pairs, lists(list(0, 1, 2, 3), list(2, 3)), 0, api.ErrWrong}, {"a group that adds up to something, and one that is missing", pairs, lists(list(0, 1, 2)), 0, api.ErrWrong}, {"somebody of nobody", nothing(3), lists(list(1)), 0, api.ErrWrong},
		{"two who owe and get otherwise", netting(3, -3, 5, -5), lists(list(0), list(1), list(2), list(3)), 0, api.ErrWrong},
		{"an empty group", pairs, lists(list(0, 1), nil, list(2, 3)), 0, api.ErrOrder}, {"an empty group of nobody", nothing(3), lists(list()), 0, api.ErrOrder}, {"turned round", pairs, lists(list(1, 0), list(2, 3)), 0, api.ErrOrder}, {"somebody twice in a group", pairs, lists(list(0, 1), list(2, 2, 3)), 0, api.ErrOrder}, {"the last one turned round, the first one wrong", pairs, lists(list(0, 2), list(3, 1)), 0, api.ErrOrder},
		{"somebody who is not there", pairs, lists(list(0, 1), list(2, 3), list(5)), 0, api.ErrNot}, {"turned round, and somebody who is not there", pairs, lists(list(1, 0), list(2, 5)), 0, api.ErrNot}, {"before the first one", pairs, lists(nil, list(-1)), 0, api.ErrNot}, {"the greatest number", pairs, lists(list(0, math.MaxInt)), 0, api.ErrNot}, {"the least number", pairs, lists(list(math.MinInt, 0)), 0, api.ErrNot},
		{"a million empty ones", pairs, make([][]int, 1000000), 0, api.ErrOrder}, {"a million groups", pairs, slices.Repeat(lists(list(0, 1)), 1000000), 0, api.ErrWrong}, {"a long one", pairs, lists(make([]int, 1000000)), 0, api.ErrOrder},
	} {
		if n, e := loan.Shows(x.d, x.groups); n != x.n || e != x.e {
			t.Error(x.name, ": Shows returns", n, e, "and should return", x.n, x.e)
		}
	}
}

// someGroups are people in some lists, mostly those whose nets are not 0, in order, and in lists that add up to 0.
func someGroups(r *rand.Rand, d loan.Debts) [][]int {
	nets := netsOf(d)
	var all [][][]int
	deal(notZero(nets), nil, func(dealt [][]int) {
		if r.IntN(200) == 0 || areWholeGroups(nets, dealt) {
			all = append(all, dealt)
		}
	})
	groups := copyLists(all[r.IntN(len(all))])
	if len(groups) == 0 {
		return nil
	}
	g := r.IntN(len(groups))
	switch r.IntN(10) {
	case 0:
		groups = slices.Delete(groups, g, g+1)
	case 1:
		groups = append(groups, groups[g])
	case 2:
		slices.Reverse(groups[g])
	case 3:
		groups[g] = append(groups[g], r.IntN(len(d)+1))
	case 4:
		groups[g] = groups[g][1:]
	}
	return groups
}

func TestShowsByTheWords(t *testing.T) {
	errors, more := map[api.Errno]int{}, 0
	debtTrials(t, 800, func(r *rand.Rand, d loan.Debts) {
		groups := someGroups(r, d)
		nets := netsOf(d)
		want, e := 0, api.OK
		not, order := false, false
		for _, g := range groups {
			not = not || slices.ContainsFunc(g, func(who int) bool { return who < 0 || who >= len(d) })
			order = order || len(g) == 0 || len(slices.Compact(slices.Sorted(slices.Values(g)))) < len(g) || !slices.IsSorted(g)
		}
		switch {
		case not:
			e = api.ErrNot
		case order:
			e = api.ErrOrder
		case !areWholeGroups(nets, groups):
			e = api.ErrWrong
		default:
			want = len(notZero(nets)) - len(groups)
			more += min(1, mostGroups(nets)-len(groups))
		}
		if n, f := loan.Shows(d, groups); n != want || f != e {
			t.Error(groups, "of", d, "show", n, f, "and should show", want, e)
		}
		errors[e]++
	})
	if errors[api.OK] < 500 || errors[api.ErrNot] < 10 || errors[api.ErrOrder] < 200 || errors[api.ErrWrong] < 200 || more < 50 {
		t.Error("the errors are", errors, "and so many show more payments than necessary:", more)
	}
}
