package gate_test

import (
	"math/rand/v2"
	"slices"
	"testing"

	"staddle/api"
	"staddle/gate"
)

// mill is the gate of the chapter's examples.
func mill() gate.Gate {
	return gate.Gate{Err: 5, Miss: 2, Grades: []gate.Grade{
		{Corn: 34, Chaff: 4, Stones: 1, Damp: 3, Price: 9},
		{Corn: 30, Chaff: 6, Stones: 2, Damp: 4, Price: 7},
		{Corn: 24, Chaff: 10, Stones: 3, Damp: 8, Price: 4},
	}}
}

// wagon is the cart of the chapter's examples, with those of its handfuls that are named, in this order.
func wagon(handfuls ...int) gate.Cart {
	all := []gate.Handful{handful(0, 40, 5, 1, 4), handful(2, 30, 6, 2, 2), handful(1, 12, 4, 0, 4)}
	c := gate.Cart{Full: 1200, Empty: 300}
	for _, i := range handfuls {
		c.Handfuls = append(c.Handfuls, all[i])
	}
	return c
}

// holding is a cart with these handfuls, which weighs 400 pounds.
func holding(handfuls ...gate.Handful) gate.Cart {
	return gate.Cart{Full: 500, Empty: 100, Handfuls: handfuls}
}

func handful(spot, corn, chaff, stones, damp int) gate.Handful {
	return gate.Handful{Spot: spot, Grains: [4]int{corn, chaff, stones, damp}}
}

func span(lo, hi int) api.Span { return api.Span{Lo: lo, Hi: hi} }

// copyGate and copyCart return values that share no memory with the ones given.
func copyGate(g gate.Gate) gate.Gate {
	g.Grades = slices.Clone(g.Grades)
	return g
}

func copyCart(c gate.Cart) gate.Cart {
	c.Handfuls = slices.Clone(c.Handfuls)
	return c
}

func sameCart(a, b gate.Cart) bool {
	return a.Full == b.Full && a.Empty == b.Empty && slices.Equal(a.Handfuls, b.Handfuls)
}

// mixtures are all there are.
var mixtures = func() [][4]int {
	var all [][4]int
	for corn := 0; corn <= 40; corn++ {
		for chaff := 0; corn+chaff <= 40; chaff++ {
			for stones := 0; corn+chaff+stones <= 40; stones++ {
				all = append(all, [4]int{corn, chaff, stones, 40 - corn - chaff - stones})
			}
		}
	}
	return all
}()

// letsHave says, word for word as the chapter does, whether a handful lets a kind have so many parts.
func letsHave(miss int, h gate.Handful, k, parts int) bool {
	n := h.Grains[0] + h.Grains[1] + h.Grains[2] + h.Grains[3]
	differ := parts*n - 40*h.Grains[k]
	if differ < 0 {
		differ = -differ
	}
	return differ <= 40*miss
}

func fitsHandful(miss int, h gate.Handful, m [4]int) bool {
	for k, parts := range m {
		if !letsHave(miss, h, k, parts) {
			return false
		}
	}
	return true
}

func keeps(grade gate.Grade, m [4]int) bool {
	return m[0] >= grade.Corn && m[1] <= grade.Chaff && m[2] <= grade.Stones && m[3] <= grade.Damp
}

func gradeOf(g gate.Gate, m [4]int) int {
	for i, grade := range g.Grades {
		if keeps(grade, m) {
			return i
		}
	}
	return gate.None
}

// known is what is found of a cart by going through all mixtures.
type known struct {
	fitting [][4]int
	bounds  [4]api.Span
	can     []int
	// together has each set of handfuls (a bit for each of them) all of which some mixture fits, and no other one.
	together map[int]bool
}

func look(g gate.Gate, c gate.Cart) known {
	k := known{together: map[int]bool{}}
	lets := make([][4][41]bool, len(c.Handfuls))
	for i, h := range c.Handfuls {
		for kind := range 4 {
			for parts := range 41 {
				lets[i][kind][parts] = letsHave(g.Miss, h, kind, parts)
			}
		}
	}
	all := 1<<len(c.Handfuls) - 1
	found := map[int]bool{}
	for _, m := range mixtures {
		set := 0
		for i := range c.Handfuls {
			if lets[i][0][m[0]] && lets[i][1][m[1]] && lets[i][2][m[2]] && lets[i][3][m[3]] {
				set |= 1 << i
			}
		}
		k.together[set] = true
		if set == all {
			k.fitting = append(k.fitting, m)
			found[gradeOf(g, m)] = true
		}
	}
	for grade := range g.Grades {
		if found[grade] {
			k.can = append(k.can, grade)
		}
	}
	if found[gate.None] {
		k.can = append(k.can, gate.None)
	}
	for i, m := range k.fitting {
		for kind, parts := range m {
			if i == 0 {
				k.bounds[kind] = span(parts, parts)
			}
			k.bounds[kind] = span(min(k.bounds[kind].Lo, parts), max(k.bounds[kind].Hi, parts))
		}
	}
	return k
}

func setOf(handfuls []int) int {
	set := 0
	for _, i := range handfuls {
		set |= 1 << i
	}
	return set
}

func (k known) agree(handfuls []int) bool {
	set := setOf(handfuls)
	for t := range k.together {
		if t&set == set {
			return true
		}
	}
	return false
}

// clash returns the first of the shortest lists of n handfuls that do not agree.
func (k known) clash(n int) []int {
	var best []int
	for set := range 1 << n {
		var list []int
		for i := range n {
			if set>>i&1 == 1 {
				list = append(list, i)
			}
		}
		if k.agree(list) {
			continue
		}
		if best == nil || len(list) < len(best) || len(list) == len(best) && slices.Compare(list, best) < 0 {
			best = list
		}
	}
	return best
}

func (k known) topped(c gate.Cart) bool {
	var all []int
	var spots [3][]int
	for i, h := range c.Handfuls {
		all = append(all, i)
		spots[h.Spot] = append(spots[h.Spot], i)
	}
	return k.agree(spots[0]) && k.agree(spots[1]) && k.agree(spots[2]) && !k.agree(all)
}

// someGate returns a gate that is allowed, often with limits near those of the examples.
func someGate(r *rand.Rand) gate.Gate {
	g := gate.Gate{Err: r.IntN(gate.MaxErr + 1), Miss: r.IntN(7)}
	if r.IntN(8) == 0 {
		g.Miss = r.IntN(gate.MaxMiss + 1)
	}
	price := gate.MaxPrice
	for range r.IntN(gate.MaxGrades + 1) {
		price -= r.IntN(min(price, 30) + 1)
		g.Grades = append(g.Grades, gate.Grade{Corn: r.IntN(41), Chaff: r.IntN(25), Stones: r.IntN(25), Damp: r.IntN(25), Price: price})
	}
	return g
}

// someCart returns a cart that is allowed, with handfuls of much the same mixture, but now and then one of another.
func someCart(r *rand.Rand) gate.Cart {
	c := gate.Cart{Full: r.IntN(gate.MaxWeight + 1), Empty: r.IntN(gate.MaxWeight/4 + 1)}
	m := mixtures[r.IntN(len(mixtures))]
	for range r.IntN(gate.MaxHandfuls + 1) {
		if r.IntN(6) == 0 {
			m = mixtures[r.IntN(len(mixtures))]
		}
		c.Handfuls = append(c.Handfuls, someHandful(r, m))
	}
	return c
}

// someHandful returns one of 20 to 160 grains, taken from a mixture.
func someHandful(r *rand.Rand, m [4]int) gate.Handful {
	h := gate.Handful{Spot: r.IntN(3)}
	for range 20 + r.IntN(141) {
		grain := r.IntN(40)
		for k, parts := range m {
			if grain < parts {
				h.Grains[k]++
				break
			}
			grain -= parts
		}
	}
	return h
}

// trials calls a function with gates and carts of all sorts, always the same ones.
func trials(t *testing.T, n int, try func(r *rand.Rand, g gate.Gate, c gate.Cart)) {
	t.Helper()
	r := rand.New(rand.NewPCG(7, 11))
	for range n {
		try(r, someGate(r), someCart(r))
		if t.Failed() {
			return
		}
	}
}
