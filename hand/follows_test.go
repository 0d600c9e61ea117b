package hand_test

import (
	"math/rand/v2"
	"slices"
	"testing"

	"staddle/api"
	"staddle/hand"
)

// TestHandsExplainIfOneIsThereInEachSmallestStretch goes by what the functions say of one another.
func TestHandsExplainIfOneIsThereInEachSmallestStretch(t *testing.T) {
	yes, no := 0, 0
	tried(t, 150, func(r *rand.Rand, w hand.Watch) {
		smallest, e := hand.Smallest(w)
		for _, some := range listsOf(w.Hands) {
			is, f := hand.Explains(w, some)
			left, g := hand.Left(w, some)
			want := true
			for _, s := range smallest {
				there, _ := hand.There(w, s)
				want = want && slices.ContainsFunc(there, func(who int) bool { return slices.Contains(some, who) })
			}
			if is != want || is != (len(left) == 0) || e != api.OK || f != api.OK || g != api.OK {
				t.Error(w, some, "explain it:", is, f, "and should:", want, "; left are", left, g, "of", smallest, e)
			}
			if is {
				yes++
			} else {
				no++
			}
		}
	})
	if yes < 1000 || no < 1000 {
		t.Error("hands explain", yes, "times, and do not", no, "times")
	}
}

// hasSpellsApart says whether a hand has several spells, between which it is not there.
func hasSpellsApart(w hand.Watch) bool {
	for who := range w.Hands {
		n, before := 0, false
		for i := range len(w.Counts) - 1 {
			now := isIn(w, who, i)
			if now && !before {
				n++
			}
			before = now
		}
		if n > 1 {
			return true
		}
	}
	return false
}

// TestStretchesThatAreApartShowThatNoFewerHandsExplain knows of more: if each hand is there but once, there are as many
// stretches as hands.
func TestStretchesThatAreApartShowThatNoFewerHandsExplain(t *testing.T) {
	several, equal := 0, 0
	tried(t, 300, func(r *rand.Rand, w hand.Watch) {
		few, e := hand.Fewest(w)
		apart, f := hand.Apart(w)
		if len(apart) > len(few) || e != api.OK || f != api.OK || !hasSpellsApart(w) && len(apart) < len(few) {
			t.Error(w, "is explained by", few, e, "and has apart", apart, f)
		}
		for k := range few {
			fewer := slices.Delete(slices.Clone(few), k, k+1)
			if is, e := hand.Explains(w, fewer); is || e != api.OK {
				t.Error(w, "is explained by", fewer, "of", few)
			}
		}
		if len(few) > 1 {
			several++
			if len(few) == len(apart) {
				equal++
			}
		}
	})
	if several < 150 || equal < 150 {
		t.Error("just", several, "watches need several hands, and", equal, "have as many stretches apart")
	}
}

func TestThereIsATruthJustIfNothingClashes(t *testing.T) {
	clashing := 0
	triedAny(t, 150, func(r *rand.Rand, w hand.Watch) {
		_, e := hand.Clashes(w)
		_, f := hand.Within(w, 0)
		_, g := hand.Missing(w)
		if agrees(w) != (e == api.ErrNone) || (e == api.OK) != (f == api.ErrClash) || f != g {
			t.Error(w, "has a truth:", agrees(w), "but", e, f, g)
		}
		if e == api.OK {
			clashing++
		}
	})
	if clashing < 200 {
		t.Error("just", clashing, "watches clash")
	}
}

func TestAHandMustHaveTakenSomethingJustIfItsLeastIsGreaterThan0(t *testing.T) {
	needed := 0
	tried(t, 200, func(r *rand.Rand, w hand.Watch) {
		must, e := hand.Must(w)
		can, f := hand.Can(w)
		all, g := hand.Missing(w)
		sum := 0
		for who := range w.Hands {
			n, h := hand.Least(w, who)
			proof, _ := hand.Proof(w, who)
			if (n > 0) != slices.Contains(must, who) || h != api.OK || n > 0 && !slices.Contains(can, who) || (n == 0) != (len(proof) == 0) {
				t.Error(w, "hand", who, "has taken", n, h, "by", proof, "and must", must, "and can", can)
			}
			sum += n
		}
		if sum > all || e != api.OK || f != api.OK || g != api.OK || !isList(must, w.Hands) || !isList(can, w.Hands) {
			t.Error(w, "misses", all, g, "but hands have taken", sum, "and must", must, e, "and can", can, f)
		}
		needed += len(must)
	})
	if needed < 200 {
		t.Error("just", needed, "hands must have taken something")
	}
}

func TestNoHandThatExplainsAloneIsWithoutASpellInAShortStretch(t *testing.T) {
	alone := 0
	tried(t, 200, func(r *rand.Rand, w hand.Watch) {
		short, _ := hand.Short(w)
		for who := range w.Hands {
			if is, e := hand.Explains(w, list(who)); !is || e != api.OK {
				continue
			}
			for _, s := range short {
				if there, e := hand.There(w, s); !slices.Contains(there, who) || e != api.OK {
					t.Error(w, "is explained by hand", who, "but in", s, "there is", there, e)
				}
				alone++
			}
		}
	})
	if alone < 500 {
		t.Error("just", alone, "short stretches are explained by one hand alone")
	}
}

// trueCount returns a count at any hour of a watch whose span has a number that lies there at this hour in some truth; or none if
// there is no room for it.
func trueCount(r *rand.Rand, w hand.Watch) (hand.Count, bool) {
	hour := r.IntN(w.Hours + 1)
	c := count(hour, 0, hand.MaxSacks)
	wide, e := hand.Add(w, c)
	if e != api.OK {
		return hand.Count{}, false
	}
	k := slices.Index(wide.Counts, c)
	can, e := hand.Within(wide, k)
	if e != api.OK {
		return hand.Count{}, false
	}
	n := can.Lo + r.IntN(can.Hi-can.Lo+1)
	return count(hour, max(0, n-r.IntN(3)), min(hand.MaxSacks, n+r.IntN(3))), true
}

func TestOneCountMoreThatIsTrueNeverTellsLess(t *testing.T) {
	added, shorter, surer := 0, 0, 0
	tried(t, 200, func(r *rand.Rand, w hand.Watch) {
		c, ok := trueCount(r, w)
		if !ok {
			return
		}
		more, e := hand.Add(w, c)
		if _, f := hand.Clashes(more); e != api.OK || f != api.ErrNone {
			t.Error(w, c, "has error", e, "and clashes:", f)
		}
		before, _ := hand.Short(w)
		after, _ := hand.Short(more)
		at := slices.Index(more.Counts, c)
		place := func(k int) int {
			if k >= at {
				return k + 1
			}
			return k
		}
		for _, s := range before {
			if !slices.Contains(after, part(place(s.From), place(s.To))) {
				t.Error(w, c, "has no longer", s, "but", after)
			}
		}
		must, _ := hand.Must(w)
		then, _ := hand.Must(more)
		if !holds(then, must) {
			t.Error(w, c, "needs", must, "and then", then)
		}
		added++
		if len(after) > len(before) {
			shorter++
		}
		if len(then) > len(must) {
			surer++
		}
	})
	if added < 500 || shorter < 100 || surer < 50 {
		t.Error("just", added, "counts are added;", shorter, "make more short, and", surer, "make more hands sure")
	}
}

// holds says whether all of a list is in another one.
func holds(all, some []int) bool {
	return !slices.ContainsFunc(some, func(n int) bool { return !slices.Contains(all, n) })
}

func TestAGreaterAllowanceNeverMakesAGapGreater(t *testing.T) {
	triedAny(t, 100, func(r *rand.Rand, w hand.Watch) {
		for _, s := range allParts(w) {
			before, e := hand.Gap(w, s)
			more := w
			for more.Allow = w.Allow + 1; more.Allow <= hand.MaxAllow; more.Allow++ {
				after, f := hand.Gap(more, s)
				hours := w.Counts[s.To].Hour - w.Counts[s.From].Hour
				if after != before-hours*(more.Allow-w.Allow) || e != api.OK || f != api.OK {
					t.Error(w, s, "has the gap", before, e, "and with", more.Allow, "allowed", after, f)
				}
			}
		}
	})
}

func TestNoListsProveMoreThanLeast(t *testing.T) {
	lists, equal := 0, 0
	tried(t, 150, func(r *rand.Rand, w hand.Watch) {
		for who := range w.Hands {
			least, _ := hand.Least(w, who)
			short := slices.DeleteFunc(shortOf(w), func(s hand.Stretch) bool { return someThere(w, others(w, who), s) })
			r.Shuffle(len(short), func(i, j int) { short[i], short[j] = short[j], short[i] })
			for _, l := range listsOf(min(len(short), 7)) {
				some := picked(short, l)
				n, e := hand.Proves(w, who, some)
				if e != api.OK && e != api.ErrTwice || n > least {
					t.Error(w, "hand", who, "has taken", least, "but", some, "proves", n, e)
				}
				if n > 0 {
					lists++
				}
				if n > 0 && n == least {
					equal++
				}
			}
		}
	})
	if lists < 1000 || equal < 200 {
		t.Error("just", lists, "lists prove something, and", equal, "as much as can be proved")
	}
}

func TestTheOrderOfSpellsAndBookingsDoesNotMatter(t *testing.T) {
	triedAny(t, 50, func(r *rand.Rand, w hand.Watch) {
		mixed := copyWatch(w)
		slices.Reverse(mixed.Spells)
		r.Shuffle(len(mixed.Bookings), func(i, j int) { mixed.Bookings[i], mixed.Bookings[j] = mixed.Bookings[j], mixed.Bookings[i] })
		for _, o := range []asked{{s: part(0, 1), some: someHands(r, w)}, {who: r.IntN(w.Hands), k: r.IntN(len(w.Counts))}} {
			for _, call := range calls(o) {
				a, e := call.do(w)
				b, f := call.do(mixed)
				if call.name != "Add" && (a != b || e != f) {
					t.Error(w, call.name, "returns", a, e, "and", b, f)
				}
			}
		}
	})
}
