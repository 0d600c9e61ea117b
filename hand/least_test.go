package hand_test

import (
	"math"
	"math/rand/v2"
	"slices"
	"testing"

	"staddle/api"
	"staddle/hand"
)

func TestLeastOfTheExamples(t *testing.T) {
	two := four(spell(0, 0, 3), spell(1, 14, 15))
	for _, x := range []struct {
		name string
		w    hand.Watch
		who  int
		want int
		e    api.Errno
	}{
		{"example 2", shared(14), 0, 0, api.OK}, {"example 2", shared(14), 1, 0, api.OK}, {"example 2", shared(14), 2, 0, api.OK},
		{"example 3", shared(12), 0, 0, api.OK}, {"example 3", shared(12), 1, 0, api.OK}, {"example 3", shared(12), 2, 11, api.OK},
		{"example 4", own(), 0, 0, api.OK}, {"example 4", own(), 1, 0, api.OK}, {"example 4", own(), 2, 17, api.OK},
		{"a hand at each end", two, 0, 2, api.OK}, {"a hand at each end", two, 1, 15, api.OK}, {"a hand at each end", two, 2, 0, api.OK},
		{"example 5", late(), 1, 0, api.ErrClash}, {"without spells", four(), 0, 0, api.ErrClash},
		{"hand 3", four(), 3, 0, api.ErrNot}, {"hand -1", late(), -1, 0, api.ErrNot}, {"the last hand of all", own(), math.MaxInt, 0, api.ErrNot},
	} {
		n, e := hand.Least(x.w, x.who)
		proof, f := hand.Proof(x.w, x.who)
		if n != x.want || e != x.e || f != x.e || provedBy(x.w, proof) != x.want || !isProof(x.w, x.who, proof) {
			t.Error(x.name, "hand", x.who, "has taken", n, e, "by", proof, f, "and should have", x.want, x.e)
		}
	}
	if proof, e := hand.Proof(own(), 2); !slices.Equal(proof, parts(part(0, 3))) && !slices.Equal(proof, parts(part(0, 2), part(1, 3))) {
		t.Error("example 4 is proved by", proof, e)
	}
	if proof, e := hand.Proof(shared(12), 2); !slices.Equal(proof, parts(part(2, 3))) {
		t.Error("example 3 is proved by", proof, e)
	}
}

func TestLeastByAllNumbers(t *testing.T) {
	some, several, clashing := 0, 0, 0
	triedAny(t, 120, func(r *rand.Rand, w hand.Watch) {
		for who := range w.Hands {
			want, e := leastOf(w, who), api.OK
			if want == far {
				want, e = 0, api.ErrClash
				clashing++
			}
			n, f := hand.Least(w, who)
			proof, g := hand.Proof(w, who)
			if n != want || e != f || e != g || provedBy(w, proof) != want || !isProof(w, who, proof) || !areInOrder(proof) {
				t.Error(w, "hand", who, "has taken", n, f, "by", proof, g, "and should have", want, e)
			}
			if want > 0 {
				some++
			}
			if len(proof) > 1 {
				several++
			}
		}
	})
	if some < 200 || several < 60 || clashing < 200 {
		t.Error("just", some, "hands must have taken something,", several, "are proved by several stretches, and there are", clashing, "in clashing watches")
	}
}

func TestMissing(t *testing.T) {
	for _, x := range []struct {
		name string
		w    hand.Watch
		want int
		e    api.Errno
	}{
		{"example 2", shared(14), 17, api.OK}, {"example 3", shared(12), 17, api.OK}, {"example 4", own(), 17, api.OK},
		{"example 5", late(), 0, api.ErrClash}, {"without spells", four(), 0, api.ErrClash}, {"nothing short", but(allowOf(20)), 0, api.OK},
		{"one count", hand.Watch{Hours: 1, Hands: 1, Counts: []hand.Count{count(1, 0, 500)}}, 0, api.OK},
	} {
		if n, e := hand.Missing(x.w); n != x.want || e != x.e {
			t.Error(x.name, "misses", n, e, "and should miss", x.want, x.e)
		}
	}
	some, more := 0, 0
	triedAny(t, 150, func(r *rand.Rand, w hand.Watch) {
		want, e := missingOf(w), api.OK
		if want == far {
			want, e = 0, api.ErrClash
		}
		n, f := hand.Missing(w)
		if n != want || e != f {
			t.Error(w, "misses", n, f, "and should miss", want, e)
		}
		if n > 0 {
			some++
		}
		for _, s := range allParts(w) {
			if e == api.OK && gapOf(w, s) > n {
				t.Error(w, "misses", n, "but", s, "has the gap", gapOf(w, s))
			}
		}
		if n > provedBy(w, smallestOf(w)) {
			more++
		}
	})
	if some < 300 || more < 100 {
		t.Error("just", some, "watches miss something, and", more, "miss more than the smallest stretches tell")
	}
}

func TestProvesOfTheExamples(t *testing.T) {
	for i, x := range []struct {
		w    hand.Watch
		who  int
		l    []hand.Stretch
		want int
		e    api.Errno
	}{
		{own(), 2, nil, 0, api.OK},
		{own(), 2, parts(part(0, 3)), 17, api.OK},
		{own(), 2, parts(part(0, 2), part(2, 3)), 13, api.OK},
		{own(), 2, parts(part(2, 3), part(0, 2)), 13, api.OK},
		{own(), 2, parts(part(1, 3)), 15, api.OK},
		{own(), 2, parts(part(1, 3), part(0, 2)), 17, api.OK},
		{shared(12), 2, parts(part(2, 3)), 11, api.OK},
		{shared(12), 0, nil, 0, api.OK},
		{late(), 0, nil, 0, api.OK},
		{four(), 0, parts(part(0, 2)), 2, api.OK},
		{four(), 0, parts(part(0, 2), part(0, 2), part(0, 3)), 21, api.OK},
		{own(), 2, parts(part(0, 2), part(0, 2)), 0, api.ErrTwice},
		{own(), 2, parts(part(0, 3), part(2, 3)), 0, api.ErrTwice},
		{own(), 2, parts(part(0, 2), part(1, 3), part(2, 3)), 0, api.ErrTwice},
		{own(), 2, parts(part(0, 3), part(2, 3), part(0, 1)), 0, api.ErrWrong},
		{own(), 2, parts(part(0, 1)), 0, api.ErrWrong},
		{own(), 2, parts(part(0, 1), part(0, 4)), 0, api.ErrWrong},
		{own(), 2, parts(part(0, 1), part(3, 0)), 0, api.ErrWrong},
		{own(), 2, parts(part(0, 2), part(0, 4), part(3, 0), part(0, 1)), 0, api.ErrNot},
		{own(), 2, parts(part(0, 2), part(-1, 2)), 0, api.ErrNot},
		{own(), 2, parts(part(4, 4)), 0, api.ErrNot},
		{own(), 2, parts(part(0, math.MaxInt)), 0, api.ErrNot},
		{own(), 2, parts(part(3, 2), part(0, 4)), 0, api.ErrOrder},
		{own(), 2, parts(part(0, 2), part(0, 2), part(1, 1)), 0, api.ErrOrder},
		{own(), 1, parts(part(0, 2)), 0, api.ErrWrong},
		{own(), 1, nil, 0, api.OK},
		{shared(12), 2, parts(part(1, 3)), 0, api.ErrWrong},
		{shared(14), 0, parts(part(0, 2)), 0, api.ErrWrong},
		{own(), 3, parts(part(0, 4)), 0, api.ErrNot},
		{own(), -1, nil, 0, api.ErrNot},
		{own(), 3, parts(part(0, 1)), 0, api.ErrNot},
		{four(), math.MinInt, parts(part(3, 0)), 0, api.ErrNot},
	} {
		if n, e := hand.Proves(x.w, x.who, x.l); n != x.want || e != x.e {
			t.Error(i, x.l, "proves", n, e, "of hand", x.who, "and should prove", x.want, x.e)
		}
	}
}

// errorOfProof says which error stretches have, by words.
func errorOfProof(w hand.Watch, who int, l []hand.Stretch) api.Errno {
	for _, s := range l {
		outside := func(k int) bool { return k < 0 || k >= len(w.Counts) }
		switch {
		case outside(s.From) || outside(s.To):
			return api.ErrNot
		case s.From >= s.To:
			return api.ErrOrder
		case !isProof(w, who, parts(s)):
			return api.ErrWrong
		}
	}
	if !isProof(w, who, l) {
		return api.ErrTwice
	}
	return api.OK
}

func TestProvesByWords(t *testing.T) {
	times := map[api.Errno]int{}
	triedAny(t, 300, func(r *rand.Rand, w hand.Watch) {
		who := r.IntN(w.Hands)
		due := slices.DeleteFunc(allParts(w), func(s hand.Stretch) bool { return !isProof(w, who, parts(s)) })
		var l []hand.Stretch
		for range r.IntN(4) {
			if len(due) > 0 && r.IntN(8) > 0 {
				l = append(l, due[r.IntN(len(due))])
			} else {
				l = append(l, part(r.IntN(len(w.Counts)+2)-1, r.IntN(len(w.Counts)+2)-1))
			}
		}
		e, want := errorOfProof(w, who, l), 0
		if e == api.OK {
			want = provedBy(w, l)
		}
		if n, f := hand.Proves(w, who, l); n != want || e != f {
			t.Error(w, l, "proves", n, f, "of hand", who, "and should prove", want, e)
		}
		if len(l) > 1 || e != api.OK {
			times[e]++
		}
	})
	for _, e := range []api.Errno{api.OK, api.ErrNot, api.ErrOrder, api.ErrWrong, api.ErrTwice} {
		if times[e] < 50 {
			t.Error("just", times[e], "lists have error", e)
		}
	}
}

// TestTruthsByWords goes through all truths of small watches: what lay there, what was lost, and what each hand has taken.
func TestTruthsByWords(t *testing.T) {
	r := rand.New(rand.NewPCG(47, 53))
	small := kind{hours: 4, allow: 1, hands: 2, counts: 3, bookings: 1, spells: 4, key: 3, wide: 1, takes: 7}
	several := 0
	for range 1000 {
		w := lived(r, small)
		least, can, missing := []int{far, far}, []bool{false, false}, far
		eachTruth(w, func(taken [2]int) {
			missing = min(missing, taken[0]+taken[1])
			for who := range w.Hands {
				least[who] = min(least[who], taken[who])
				can[who] = can[who] || taken[who] > 0
			}
		})
		got, e := hand.Can(w)
		if n, f := hand.Missing(w); n != missing || e != api.OK || f != api.OK {
			t.Error(w, "misses", n, e, f, "and should miss", missing)
		}
		for who := range w.Hands {
			if n, e := hand.Least(w, who); n != least[who] || e != api.OK || slices.Contains(got, who) != can[who] {
				t.Error(w, who, "has taken", n, e, "and can", got, "and should", least[who], can[who])
			}
		}
		if len(got) > 1 && missing > 0 {
			several++
		}
	}
	if several < 50 {
		t.Error("just", several, "watches miss something that several can have")
	}
}

// eachTruth calls a function with what two hands have taken in each truth.
func eachTruth(w hand.Watch, do func(taken [2]int)) {
	var follow func(k, sacks int, taken [2]int)
	follow = func(k, sacks int, taken [2]int) {
		if sacks < w.Counts[k].Sacks.Lo || sacks > w.Counts[k].Sacks.Hi {
			return
		}
		if k == len(w.Counts)-1 {
			do(taken)
			return
		}
		before := sacks + bookedIn(w, k)
		for lost := range allowedIn(w, k) + 1 {
			for first := range max(0, before-lost) + 1 {
				if first > 0 && !isIn(w, 0, k) {
					break
				}
				for second := range max(0, before-lost-first) + 1 {
					if second > 0 && !isIn(w, 1, k) {
						break
					}
					follow(k+1, before-lost-first-second, [2]int{taken[0] + first, taken[1] + second})
				}
			}
		}
	}
	for n := w.Counts[0].Sacks.Lo; n <= w.Counts[0].Sacks.Hi; n++ {
		follow(0, n, [2]int{})
	}
}
