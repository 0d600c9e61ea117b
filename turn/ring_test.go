package turn_test

import (
	"math"
	"math/rand/v2"
	"slices"
	"testing"

	"staddle/api"
	"staddle/turn"
)

func TestMustAndRings(t *testing.T) {
	away := three(50)
	away.Lots[2].To = 3
	free := three(50)
	free.Lots[2].To = anywhere
	for _, x := range []struct {
		b     turn.Barn
		must  []int
		rings [][]int
	}{
		{three(50), list(0, 1), lists(list(0, 1))},
		{away, list(0, 1, 2), lists(list(0, 1))},
		{free, list(0, 1), lists(list(0, 1))},
		{light(7, 2, 3, 4, 1, 0, anywhere), list(0, 1, 2, 3, 4), lists(list(0, 2, 4), list(1, 3))},
		{light(7, 1, 2, 3, 4, 5, 0), list(0, 1, 2, 3, 4, 5), lists(list(0, 1, 2, 3, 4, 5))},
		{light(7, 5, 4, 3, 2, 1, 0), list(0, 1, 2, 3, 4, 5), lists(list(0, 5), list(1, 4), list(2, 3))},
		{light(6, 5, 0, 1, 2, 3, 4), list(0, 1, 2, 3, 4, 5), lists(list(0, 5, 4, 3, 2, 1))},
		{light(4, 1, 2, anywhere), list(0, 1, 2), nil},
		{light(4, 1, 2, 3), list(0, 1, 2), nil},
		{light(4, 0, 1, 2, 3), nil, nil},
		{light(4, anywhere, anywhere), nil, nil},
		{light(4, anywhere, 0), list(0, 1), nil},
		{light(4, 1, anywhere), list(0, 1), nil},
		{light(4, anywhere, 2), list(1), nil},
		{light(3), nil, nil},
	} {
		if must, e := turn.Must(x.b); !slices.Equal(must, x.must) || e != api.OK {
			t.Error("in", x.b, must, "must be turned, and should be", x.must, e)
		}
		if rings, e := turn.Rings(x.b); !sameLists(rings, x.rings) || e != api.OK {
			t.Error("the rings of", x.b, "are", rings, "and should be", x.rings, e)
		}
		if n, e := turn.Shows(x.b, x.rings); n != len(x.must)+len(x.rings) || e != api.OK {
			t.Error("the rings of", x.b, "show", n, e)
		}
	}
}

// TestMustAndRingsByTheWords goes through all lists of lots.
func TestMustAndRingsByTheWords(t *testing.T) {
	count := [4]int{}
	trials(t, 500, func(r *rand.Rand, b turn.Barn) {
		if must, e := turn.Must(b); !slices.Equal(must, mustTurn(b)) || e != api.OK {
			t.Error("in", b, must, "must be turned, and should be", mustTurn(b), e)
		}
		rings, e := turn.Rings(b)
		if !sameLists(rings, ringsOf(b)) || e != api.OK {
			t.Error("the rings of", b, "are", rings, "and should be", ringsOf(b), e)
		}
		count[len(rings)]++
	})
	r := rand.New(rand.NewPCG(3, 4))
	for range 300 {
		b := light(7, r.Perm(6 + r.IntN(2))[:6]...)
		for k := range r.IntN(3) {
			b.Lots[k].To = anywhere
		}
		rings, e := turn.Rings(b)
		if !sameLists(rings, ringsOf(b)) || e != api.OK {
			t.Error("the rings of", b, "are", rings, "and should be", ringsOf(b), e)
		}
		count[len(rings)]++
	}
	if count[0] < 100 || count[1] < 100 || count[2] < 20 {
		t.Error("so many have so many rings:", count)
	}
}

func TestShows(t *testing.T) {
	b := light(7, 2, 3, 4, 1, 0, anywhere)
	for _, x := range []struct {
		rings [][]int
		n     int
		e     api.Errno
	}{
		{nil, 5, api.OK}, {lists(list(0, 2, 4)), 6, api.OK}, {lists(list(0, 2, 4), list(1, 3)), 7, api.OK}, {lists(list(1, 3), list(0, 2, 4)), 7, api.OK},
		{lists(list(2, 4, 0)), 6, api.OK}, {lists(list(4, 0, 2), list(3, 1)), 7, api.OK},
		{lists(list(0, 4, 2)), 0, api.ErrWrong}, {lists(list(0, 2)), 0, api.ErrWrong}, {lists(list(2, 4)), 0, api.ErrWrong}, {lists(list(0, 2, 4, 1)), 0, api.ErrWrong},
		{lists(list(5)), 0, api.ErrWrong}, {lists(list(0)), 0, api.ErrWrong}, {lists(nil), 0, api.ErrWrong}, {lists(list(1, 3), nil), 0, api.ErrWrong}, {lists(nil, list(1, 3)), 0, api.ErrWrong},
		{lists(list(1, 3, 0, 2, 4)), 0, api.ErrWrong}, {lists(list(0, 1), list(2, 3)), 0, api.ErrWrong},
		{lists(list(1, 3), list(1, 3)), 0, api.ErrTwice}, {lists(list(1, 3), list(3, 1)), 0, api.ErrTwice}, {lists(list(1, 3, 1, 3)), 0, api.ErrTwice}, {lists(list(1, 1)), 0, api.ErrTwice},
		{lists(nil, list(0, 4, 2, 0)), 0, api.ErrTwice}, {lists(list(0, 4), list(1), list(4)), 0, api.ErrTwice},
		{lists(list(6)), 0, api.ErrNot}, {lists(list(-1)), 0, api.ErrNot}, {lists(list(1, 1), list(5), list(6)), 0, api.ErrNot}, {lists(nil, list(1, 1, math.MaxInt)), 0, api.ErrNot},
		{lists(list(1, 3, math.MinInt)), 0, api.ErrNot},
	} {
		if n, e := turn.Shows(b, x.rings); n != x.n || e != x.e {
			t.Error(x.rings, "show", n, e, "and should show", x.n, x.e)
		}
	}
	for _, x := range []struct {
		b turn.Barn
		e api.Errno
	}{{light(4, 0, 1), api.ErrWrong}, {light(4, anywhere), api.ErrWrong}, {light(4), api.ErrNot}} {
		if n, e := turn.Shows(x.b, lists(list(0))); n != 0 || e != x.e {
			t.Error("a ring of one lot of", x.b, "shows", n, e, "and should have error", x.e)
		}
	}
}

// errorOfRings says what is wrong with rings, by the words of the chapter.
func errorOfRings(b turn.Barn, rings [][]int) api.Errno {
	all := slices.Concat(rings...)
	for _, k := range all {
		if k < 0 || k >= len(b.Lots) {
			return api.ErrNot
		}
	}
	for i, k := range all {
		if slices.Contains(all[:i], k) {
			return api.ErrTwice
		}
	}
	for _, ring := range rings {
		if !isRing(b, ring) {
			return api.ErrWrong
		}
	}
	return api.OK
}

// TestShowsByTheWords turns rings round, leaves some out, and spoils others.
func TestShowsByTheWords(t *testing.T) {
	errors := map[api.Errno]int{}
	shown := 0
	trials(t, 1000, func(r *rand.Rand, b turn.Barn) {
		var rings [][]int
		for _, ring := range ringsOf(b) {
			if at := r.IntN(len(ring)); r.IntN(4) > 0 {
				rings = append(rings, slices.Concat(ring[at:], ring[:at]))
			}
		}
		for range max(0, r.IntN(5)-2) {
			rings = append(rings, r.Perm(len(b.Lots) + 1)[:r.IntN(len(b.Lots)+1)])
		}
		want := errorOfRings(b, rings)
		n, e := turn.Shows(b, rings)
		if e != want || e == api.OK && n != len(mustTurn(b))+len(rings) || e != api.OK && n != 0 {
			t.Error("in", b, rings, "show", n, e, "and should have error", want)
		}
		if errors[e]++; e == api.OK && len(rings) > 0 {
			shown++
		}
	})
	if shown < 100 || errors[api.ErrNot] < 100 || errors[api.ErrTwice] < 50 || errors[api.ErrWrong] < 100 {
		t.Error("the errors are", errors, "and", shown, "show something")
	}
}
