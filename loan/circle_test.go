package loan_test

import (
	"math"
	"math/rand/v2"
	"slices"
	"testing"

	"staddle/api"
	"staddle/loan"
)

// goesRound says whether somebody owes something to somebody, to whom a debt leads back: in 1, 2, 4 steps, and so on.
func goesRound(d loan.Debts) bool {
	leads := copyLists(d)
	for via := range d {
		for from := range d {
			for to := range d {
				leads[from][to] = max(leads[from][to], min(leads[from][via], leads[via][to]))
			}
		}
	}
	for who := range d {
		if leads[who][who] > 0 {
			return true
		}
	}
	return false
}

// isCircle says whether a list is a circle, by the words of the chapter.
func isCircle(d loan.Debts, l []int) bool {
	for k, who := range l {
		if slices.Contains(l[:k], who) || who < 0 || who >= len(d) {
			return false
		}
	}
	for k, who := range l {
		next := l[0]
		if k+1 < len(l) {
			next = l[k+1]
		}
		if d[who][next] == 0 {
			return false
		}
	}
	return len(l) >= 2
}

// cancel returns the debts less those around a circle, as often as all of them are there.
func cancel(d loan.Debts, circle []int) loan.Debts {
	less := loan.Debts(copyLists(d))
	for isCircle(less, circle) {
		n := math.MaxInt
		for k, who := range circle {
			n = min(n, less[who][circle[(k+1)%len(circle)]])
		}
		for k, who := range circle {
			less[who][circle[(k+1)%len(circle)]] -= n
		}
	}
	return less
}

func TestCircle(t *testing.T) {
	for _, x := range []struct {
		name string
		d    loan.Debts
		want []int
	}{
		{"the example", round(), list(0, 3, 2, 1)}, {"two", loan.Debts{list(0, 3), list(1, 0)}, list(0, 1)},
		{"none", nothing(7), nil}, {"one person", nothing(1), nil}, {"one debt", loan.Debts{list(0, 3), list(0, 0)}, nil}, {"ways that meet", loan.Debts{list(0, 1, 1, 0), list(0, 0, 0, 1), list(0, 0, 0, 1), list(0, 0, 0, 0)}, nil},
		{"behind somebody who is not on it", loan.Debts{list(0, 1, 0, 0), list(0, 0, 1, 0), list(0, 0, 0, 1), list(0, 1, 0, 0)}, list(1, 2, 3)},
		{"before somebody who is not on it", loan.Debts{list(0, 1, 0, 0), list(0, 0, 0, 0), list(0, 1, 0, 1), list(1, 0, 1, 0)}, list(2, 3)},
	} {
		got, e := loan.Circle(x.d)
		if x.want == nil && (len(got) > 0 || e != api.ErrNone) {
			t.Error(x.name, ": there is a circle", got, e)
		}
		if x.want == nil {
			continue
		}
		same := slices.Clone(got)
		slices.Sort(same)
		want := slices.Sorted(slices.Values(x.want))
		if e != api.OK || !isCircle(x.d, got) || !slices.Equal(same, want) {
			t.Error(x.name, ": the circle is", got, e, "and should be", x.want)
		}
	}
}

func TestCirclesByTheWords(t *testing.T) {
	lengths := map[int]int{}
	debtTrials(t, 500, func(r *rand.Rand, d loan.Debts) {
		got, e := loan.Circle(d)
		want := api.OK
		if !goesRound(d) {
			want = api.ErrNone
		}
		if e != want || e == api.OK && !isCircle(d, got) || e != api.OK && len(got) > 0 {
			t.Error("the circle of", d, "is", got, e, "and there should be", want)
		}
		lengths[len(got)]++
	})
	// the longest ways back that there can be
	for folk := 2; folk <= 7; folk++ {
		d := nothing(folk)
		for who := range d {
			d[who][(who+1)%folk] = 1
		}
		got, e := loan.Circle(d)
		if e != api.OK || len(got) != folk || !isCircle(d, got) {
			t.Error("the circle of", d, "is", got, e)
		}
		d[folk-1][0] = 0
		if got, e := loan.Circle(d); e != api.ErrNone || len(got) > 0 {
			t.Error("the circle of", d, "is", got, e)
		}
	}
	if lengths[0] < 300 || lengths[2] < 300 || lengths[3] < 20 {
		t.Error("so many are of each length:", lengths)
	}
}

func TestCancel(t *testing.T) {
	less := loan.Debts{list(0, 0, 0, 2), list(6, 0, 0, 0), list(0, 6, 0, 0), list(0, 0, 0, 0)}
	both := loan.Debts{list(0, 5, 4), list(3, 0, 0), list(0, 9, 0)}
	for _, x := range []struct {
		name   string
		d      loan.Debts
		circle []int
		want   loan.Debts
		e      api.Errno
	}{
		{"the example", round(), list(0, 3, 2, 1), less, api.OK}, {"from another one on", round(), list(2, 1, 0, 3), less, api.OK}, {"two", both, list(1, 0), loan.Debts{list(0, 2, 4), list(0, 0, 0), list(0, 9, 0)}, api.OK}, {"three", both, list(0, 2, 1), loan.Debts{list(0, 5, 1), list(0, 0, 0), list(0, 6, 0)}, api.OK},
		{"the wrong way round", round(), list(1, 2, 3, 0), nil, api.ErrWrong}, {"not back", round(), list(0, 3, 2), nil, api.ErrWrong}, {"in another order", round(), list(0, 1, 2, 3), nil, api.ErrWrong}, {"two, one way", both, list(0, 2), nil, api.ErrWrong}, {"people who owe nothing", nothing(3), list(0, 1), nil, api.ErrWrong},
		{"nobody", round(), nil, nil, api.ErrMany}, {"one", round(), list(0), nil, api.ErrMany}, {"one who is not there", round(), list(9), nil, api.ErrMany},
		{"somebody who is not there", round(), list(0, 3, 2, 4), nil, api.ErrNot}, {"somebody before the first one", round(), list(0, -1), nil, api.ErrNot}, {"one twice and one who is not there", round(), list(0, 0, 4), nil, api.ErrNot},
		{"the first one again", round(), list(0, 3, 2, 1, 0), nil, api.ErrTwice}, {"twice round", round(), list(0, 3, 2, 1, 0, 3, 2, 1), nil, api.ErrTwice}, {"one twice", round(), list(1, 1), nil, api.ErrTwice}, {"a million times", round(), make([]int, 1000000), nil, api.ErrTwice},
		{"one cancelled already", less, list(0, 3, 2, 1), nil, api.ErrWrong},
	} {
		if got, e := loan.Cancel(x.d, x.circle); !sameLists(got, x.want) || e != x.e {
			t.Error(x.name, ": Cancel returns", got, e, "and should return", x.want, x.e)
		}
	}
}

// someRing is some people in a row, mostly such that each one owes something to the next one.
func someRing(r *rand.Rand, d loan.Debts) []int {
	ring := list(r.IntN(len(d)))
	for range r.IntN(len(d) + 1) {
		next := r.IntN(len(d))
		for k := range d {
			who := (next + k) % len(d)
			if d[ring[len(ring)-1]][who] > 0 && !slices.Contains(ring, who) {
				next = who
			}
		}
		ring = append(ring, next)
	}
	return ring
}

func TestCancelByTheWords(t *testing.T) {
	errors, lengths := map[api.Errno]int{}, map[int]int{}
	debtTrials(t, 800, func(r *rand.Rand, d loan.Debts) {
		ring := someRing(r, d)
		want, e := loan.Debts(nil), api.OK
		switch {
		case len(ring) < 2:
			e = api.ErrMany
		case len(slices.Compact(slices.Sorted(slices.Values(ring)))) < len(ring):
			e = api.ErrTwice
		case !isCircle(d, ring):
			e = api.ErrWrong
		default:
			want = cancel(d, ring)
			lengths[len(ring)]++
		}
		if got, f := loan.Cancel(d, ring); !sameLists(got, want) || f != e {
			t.Error(d, "without", ring, "are", got, f, "and should be", want, e)
		}
		errors[e]++
	})
	if errors[api.OK] < 200 || errors[api.ErrMany] < 100 || errors[api.ErrTwice] < 100 || errors[api.ErrWrong] < 100 || lengths[2] < 50 || lengths[3] < 50 || lengths[4] < 20 {
		t.Error("the errors are", errors, "and so many are of each length:", lengths)
	}
}

// countDebts is the number of debts that are not 0.
func countDebts(d loan.Debts) int {
	n := 0
	for _, row := range d {
		for _, debt := range row {
			n += min(debt, 1)
		}
	}
	return n
}

func TestStraight(t *testing.T) {
	for _, x := range []struct {
		name    string
		d, want loan.Debts
	}{
		{"the example", round(), loan.Debts{list(0, 0, 0, 2), list(6, 0, 0, 0), list(0, 6, 0, 0), list(0, 0, 0, 0)}}, {"nothing", nothing(3), nothing(3)}, {"one person", nothing(1), nothing(1)},
		{"two who owe the same", loan.Debts{list(0, 3), list(3, 0)}, nothing(2)}, {"two who do not", loan.Debts{list(0, 3), list(1, 0)}, loan.Debts{list(0, 2), list(0, 0)}}, {"straight ones", loan.Debts{list(0, 3, 4), list(0, 0, 5), list(0, 0, 0)}, loan.Debts{list(0, 3, 4), list(0, 0, 5), list(0, 0, 0)}},
	} {
		if got, e := loan.Straight(x.d); !sameLists(got, x.want) || e != api.OK {
			t.Error(x.name, ": the straight debts are", got, e, "and should be", x.want)
		}
	}
}

func TestStraightByTheWords(t *testing.T) {
	same, less := 0, 0
	debtTrials(t, 400, func(r *rand.Rand, d loan.Debts) {
		got, e := loan.Straight(d)
		if e != api.OK || loan.CheckDebts(got) != api.OK || len(got) != len(d) {
			t.Fatal("the straight debts of", d, "are", got, e)
		}
		greater := false
		for from, row := range got {
			for to, n := range row {
				greater = greater || n > d[from][to]
			}
		}
		if goesRound(got) || greater || !slices.Equal(netsOf(got), netsOf(d)) {
			t.Error("the straight debts of", d, "are", got)
		}
		if sameLists(got, d) {
			same++
		}
		if countDebts(got) < countDebts(d)-2 {
			less++
		}
	})
	if same < 200 || less < 200 {
		t.Error("so many are straight already:", same, "and so many have fewer debts then:", less)
	}
}
