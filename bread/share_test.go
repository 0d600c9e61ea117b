package bread_test

import (
	"math"
	"math/rand/v2"
	"slices"
	"testing"

	"staddle/api"
	"staddle/bread"
)

func TestShare(t *testing.T) {
	thousands := slices.Repeat(list(1000), 8)
	for _, x := range []struct {
		sacks       int
		wants, want []int
		e           api.Errno
	}{
		{10, list(2, 7, 5), list(2, 4, 4), api.OK}, {11, list(2, 7, 5), list(2, 5, 4), api.OK}, {12, list(2, 7, 5), list(2, 5, 5), api.OK}, {13, list(2, 7, 5), list(2, 6, 5), api.OK},
		{14, list(2, 7, 5), list(2, 7, 5), api.OK}, {15, list(2, 7, 5), list(2, 7, 5), api.OK}, {1000, list(2, 7, 5), list(2, 7, 5), api.OK}, {0, list(2, 7, 5), list(0, 0, 0), api.OK},
		{1, list(2, 7, 5), list(1, 0, 0), api.OK}, {2, list(2, 7, 5), list(1, 1, 0), api.OK}, {4, list(2, 7, 5), list(2, 1, 1), api.OK}, {7, list(2, 7, 5), list(2, 3, 2), api.OK},
		{1, list(0, 0, 3), list(0, 0, 1), api.OK}, {9, list(5, 7), list(5, 4), api.OK}, {9, list(7, 5), list(5, 4), api.OK}, {5, list(0), list(0), api.OK}, {5, list(9), list(5), api.OK},
		{5, nil, nil, api.OK}, {0, nil, nil, api.OK}, {1000, nil, nil, api.OK}, {1000, thousands, slices.Repeat(list(125), 8), api.OK}, {999, thousands, append(slices.Repeat(list(125), 7), 124), api.OK},
		{1000, list(1000), list(1000), api.OK}, {1000, list(1000, 0, 1000), list(500, 0, 500), api.OK}, {1000, list(999, 2), list(998, 2), api.OK},
		{5, make([]int, 9), nil, api.ErrMany}, {5, make([]int, 1000000), nil, api.ErrMany}, {-1, make([]int, 9), nil, api.ErrMany}, {5, slices.Repeat(list(-1), 9), nil, api.ErrMany},
		{1001, list(1), nil, api.ErrRange}, {-1, list(1), nil, api.ErrRange}, {-1, nil, nil, api.ErrRange}, {1, list(1, -1), nil, api.ErrRange}, {1, list(1001, 1), nil, api.ErrRange},
		{math.MaxInt, list(1), nil, api.ErrRange}, {math.MinInt, list(1), nil, api.ErrRange}, {1, list(math.MaxInt), nil, api.ErrRange}, {1, list(1, math.MinInt), nil, api.ErrRange},
	} {
		got, e := bread.Share(x.sacks, x.wants)
		if !slices.Equal(got, x.want) || e != x.e {
			t.Error(x.sacks, "for", x.wants, "are shared as", got, e, "and should be as", x.want, x.e)
		}
		if is, e := bread.Fair(x.sacks, x.wants, x.want); is != (x.e == api.OK) || e != x.e {
			t.Error(x.want, "are fair shares of", x.sacks, "for", x.wants, is, e)
		}
	}
}

func TestFair(t *testing.T) {
	for _, x := range []struct {
		sacks         int
		wants, shares []int
		is            bool
		e             api.Errno
	}{
		{10, list(2, 7, 5), list(2, 4, 4), true, api.OK}, {10, list(2, 7, 5), list(2, 5, 3), false, api.OK}, {10, list(2, 7, 5), list(2, 3, 5), false, api.OK}, {10, list(2, 7, 5), list(1, 5, 4), false, api.OK}, {10, list(2, 7, 5), list(3, 4, 3), false, api.OK},
		{11, list(2, 7, 5), list(2, 4, 5), false, api.OK}, {11, list(2, 7, 5), list(2, 4, 4), false, api.OK}, {11, list(2, 7, 5), list(2, 5, 5), false, api.OK}, {3, list(2, 7, 5), list(2, 7, 5), false, api.OK}, {15, list(2, 7, 5), list(3, 7, 5), false, api.OK}, {15, list(2, 7, 5), list(2, 7, 4), false, api.OK},
		{0, list(2, 7, 5), list(0, 0, 0), true, api.OK}, {0, nil, nil, true, api.OK}, {9, nil, nil, true, api.OK}, {9, list(0), list(1), false, api.OK}, {1, list(0, 3), list(1, 0), false, api.OK},
		{10, list(2, 7, 5), list(2, 8), false, api.ErrMany}, {10, list(2, 7, 5), list(2, 4, 4, 0), false, api.ErrMany}, {10, list(2, 7, 5), nil, false, api.ErrMany}, {10, nil, list(0), false, api.ErrMany}, {10, list(2, 7, 5), list(-1, 1001), false, api.ErrMany}, {10, list(1), make([]int, 1000000), false, api.ErrMany},
		{10, list(2, 7, 5), list(2, 4, -1), false, api.ErrRange}, {10, list(2, 7, 5), list(1001, 4, 4), false, api.ErrRange}, {10, list(2, 7, 5), list(2, math.MaxInt, 4), false, api.ErrRange}, {10, list(2, 7, 5), list(2, 4, math.MinInt), false, api.ErrRange}, {10, list(2, 7, 5), list(2, 1000, 0), false, api.OK},
		{1001, list(2, 7, 5), list(2, 4), false, api.ErrRange}, {-1, list(2, 7, 5), list(2, 4), false, api.ErrRange}, {10, list(2, 7, 1001), list(2, 4), false, api.ErrRange}, {10, list(2, -1, 5), list(2, 4, 4), false, api.ErrRange},
		{10, make([]int, 9), list(2, 4), false, api.ErrMany}, {1001, make([]int, 9), make([]int, 9), false, api.ErrMany},
	} {
		if is, e := bread.Fair(x.sacks, x.wants, x.shares); is != x.is || e != x.e {
			t.Error(x.shares, "are fair shares of", x.sacks, "for", x.wants, is, e, "and should be", x.is, x.e)
		}
	}
}

// isFair says whether shares are fair, by the words of the chapter.
func isFair(sacks int, wants, shares []int) bool {
	sum := 0
	satisfied, fair := true, true
	for i, n := range shares {
		sum += n
		satisfied = satisfied && n >= wants[i]
		fair = fair && n <= wants[i]
		if n >= wants[i] {
			continue
		}
		for j, m := range shares {
			if j != i {
				fair = fair && (m <= n || m == n+1 && j < i)
			}
		}
	}
	return fair && (sum == sacks || sum < sacks && satisfied)
}

// TestAllShares goes through all lists of shares: one of them is fair.
func TestAllShares(t *testing.T) {
	r := rand.New(rand.NewPCG(2, 2))
	for range 300 {
		var wants []int
		for range r.IntN(5) {
			wants = append(wants, r.IntN(5))
		}
		sacks := r.IntN(18)
		got, e := bread.Share(sacks, wants)
		fair := 0
		all := [][]int{nil}
		for range wants {
			var more [][]int
			for _, shares := range all {
				for n := range 6 {
					more = append(more, append(slices.Clone(shares), n))
				}
			}
			all = more
		}
		for _, shares := range all {
			is, f := bread.Fair(sacks, wants, shares)
			if want := isFair(sacks, wants, shares); is != want || f != api.OK || want != slices.Equal(shares, got) {
				t.Error(shares, "are fair shares of", sacks, "for", wants, is, f, "and should be", want, "; they are shared as", got, e)
			}
			if is {
				fair++
			}
		}
		if fair != 1 || e != api.OK {
			t.Error(fair, "shares of", sacks, "for", wants, "are fair", e)
		}
	}
}

func TestSharesByTheWords(t *testing.T) {
	r := rand.New(rand.NewPCG(2, 3))
	fair := map[bool]int{}
	for range 3000 {
		most := 1 + r.IntN(300)
		var wants []int
		for range r.IntN(9) {
			wants = append(wants, r.IntN(most))
		}
		sacks := r.IntN(1001)
		got, e := bread.Share(sacks, wants)
		if !isFair(sacks, wants, got) || e != api.OK {
			t.Error(sacks, "for", wants, "are shared as", got, e)
		}
		if len(got) < 2 {
			continue
		}
		i, j := r.IntN(len(got)), r.IntN(len(got))
		got[i] = max(0, got[i]-1)
		got[j]++
		is, e := bread.Fair(sacks, wants, got)
		if want := isFair(sacks, wants, got); is != want || e != api.OK {
			t.Error(got, "are fair shares of", sacks, "for", wants, is, e, "and should be", want)
		}
		fair[is]++
	}
	if fair[true] < 300 || fair[false] < 300 {
		t.Error("so many are fair:", fair)
	}
}
