package gate_test

import (
	"math"
	"math/rand/v2"
	"slices"
	"testing"

	"staddle/api"
	"staddle/gate"
)

func TestHas(t *testing.T) {
	for _, x := range []struct {
		m    [4]int
		want int
	}{
		{[4]int{34, 3, 0, 3}, 0},
		{[4]int{34, 4, 1, 1}, 0},
		{[4]int{40, 0, 0, 0}, 0},
		{[4]int{33, 3, 1, 3}, 1},
		{[4]int{34, 5, 1, 0}, 1},
		{[4]int{34, 4, 2, 0}, 1},
		{[4]int{34, 2, 0, 4}, 1},
		{[4]int{30, 6, 2, 2}, 1},
		{[4]int{30, 6, 0, 4}, 1},
		{[4]int{29, 6, 2, 3}, 2},
		{[4]int{30, 7, 2, 1}, 2},
		{[4]int{30, 5, 3, 2}, 2},
		{[4]int{30, 4, 1, 5}, 2},
		{[4]int{24, 10, 3, 3}, 2},
		{[4]int{24, 8, 0, 8}, 2},
		{[4]int{23, 10, 2, 5}, gate.None},
		{[4]int{24, 11, 2, 3}, gate.None},
		{[4]int{24, 10, 4, 2}, gate.None},
		{[4]int{24, 7, 0, 9}, gate.None},
		{[4]int{0, 0, 0, 40}, gate.None},
	} {
		if got, e := gate.Has(mill(), x.m); got != x.want || e != api.OK {
			t.Error("mixture", x.m, "has grade", got, e, "and should have", x.want)
		}
	}
	if got, e := gate.Has(gate.Gate{}, [4]int{40, 0, 0, 0}); got != gate.None || e != api.OK {
		t.Error("without grades a mixture has", got, e)
	}
}

func TestGradesOfCarts(t *testing.T) {
	low := mill()
	low.Grades = low.Grades[1:]
	twice := mill()
	twice.Grades = []gate.Grade{twice.Grades[1], twice.Grades[1]}
	lenient := gate.Gate{Miss: 2, Grades: []gate.Grade{{Corn: 0, Chaff: 40, Stones: 40, Damp: 40, Price: 3}, {Corn: 0, Chaff: 40, Stones: 40, Damp: 40, Price: 1}}}
	strict := gate.Gate{Miss: 2, Grades: []gate.Grade{{Corn: 40, Price: 1}}}
	for _, x := range []struct {
		name string
		g    gate.Gate
		c    gate.Cart
		can  []int
		sure int
		e, f api.Errno
	}{
		{"handfuls 0 and 1", mill(), wagon(0, 1), []int{1}, 1, api.OK, api.OK},
		{"handful 1", mill(), wagon(1), []int{1, 2, gate.None}, 0, api.OK, api.ErrNone},
		{"handful 2", mill(), wagon(2), []int{2, gate.None}, 0, api.OK, api.ErrNone},
		{"no handfuls", mill(), wagon(), []int{0, 1, 2, gate.None}, 0, api.OK, api.ErrNone},
		{"no first grade", low, wagon(0, 1), []int{0}, 0, api.OK, api.OK},
		{"no grades", gate.Gate{Miss: 2}, wagon(1), []int{gate.None}, gate.None, api.OK, api.OK},
		{"a grade that comes again", twice, wagon(), []int{0, gate.None}, 0, api.OK, api.ErrNone},
		{"a grade that asks for nothing", lenient, wagon(1), []int{0}, 0, api.OK, api.OK},
		{"a grade that no mixture that fits has", strict, wagon(0), []int{gate.None}, gate.None, api.OK, api.OK},
		{"a clash", mill(), wagon(0, 2), nil, 0, api.ErrClash, api.ErrClash},
	} {
		if can, e := gate.Can(x.g, x.c); !slices.Equal(can, x.can) || e != x.e {
			t.Error("Can of", x.name, "is", can, e, "and should be", x.can, x.e)
		}
		if sure, e := gate.Sure(x.g, x.c); sure != x.sure || e != x.f {
			t.Error("Sure of", x.name, "is", sure, e, "and should be", x.sure, x.f)
		}
	}
}

// TestGradesMissedByOnePart asks carts that have one mixture only for a grade that allows it just so, or all but a part.
func TestGradesMissedByOnePart(t *testing.T) {
	for _, x := range []struct {
		grains [4]int
		grade  gate.Grade
		want   int
	}{
		{[4]int{20, 0, 0, 0}, gate.Grade{Corn: 40}, 0},
		{[4]int{19, 1, 0, 0}, gate.Grade{Corn: 38, Chaff: 2}, 0},
		{[4]int{19, 1, 0, 0}, gate.Grade{Corn: 39, Chaff: 2}, gate.None},
		{[4]int{19, 1, 0, 0}, gate.Grade{Corn: 38, Chaff: 1}, gate.None},
		{[4]int{0, 20, 0, 0}, gate.Grade{Corn: 0, Chaff: 40}, 0},
		{[4]int{0, 20, 0, 0}, gate.Grade{Corn: 1, Chaff: 40}, gate.None},
		{[4]int{0, 20, 0, 0}, gate.Grade{Corn: 0, Chaff: 39}, gate.None},
		{[4]int{0, 0, 20, 0}, gate.Grade{Corn: 0, Stones: 40}, 0},
		{[4]int{0, 0, 20, 0}, gate.Grade{Corn: 0, Stones: 39}, gate.None},
		{[4]int{0, 0, 0, 20}, gate.Grade{Corn: 0, Damp: 40}, 0},
		{[4]int{0, 0, 0, 20}, gate.Grade{Corn: 0, Damp: 39}, gate.None},
	} {
		g := gate.Gate{Grades: []gate.Grade{x.grade}}
		c := holding(gate.Handful{Grains: x.grains})
		if got, e := gate.Sure(g, c); got != x.want || e != api.OK {
			t.Error("a cart of", x.grains, "has grade", got, e, "by", x.grade, "and should have", x.want)
		}
		if m, e := gate.Show(g, c, x.want); e != api.OK || m[0] != 2*x.grains[0] || m[1] != 2*x.grains[1] || m[2] != 2*x.grains[2] || m[3] != 2*x.grains[3] {
			t.Error("a cart of", x.grains, "is shown by", m, e)
		}
	}
}

func TestShow(t *testing.T) {
	for _, x := range []struct {
		name  string
		c     gate.Cart
		grade int
		want  api.Errno
	}{
		{"the grade it has for certain", wagon(0, 1), 1, api.OK},
		{"a better one", wagon(0, 1), 0, api.ErrNone},
		{"a worse one", wagon(0, 1), 2, api.ErrNone},
		{"none, but it has one", wagon(0, 1), gate.None, api.ErrNone},
		{"one of several", wagon(1), 1, api.OK},
		{"another one of several", wagon(1), 2, api.OK},
		{"none, which it can have", wagon(1), gate.None, api.OK},
		{"the first one of all", wagon(), 0, api.OK},
		{"none of all", wagon(), gate.None, api.OK},
		{"no grade", wagon(1), 3, api.ErrNot},
		{"less than none", wagon(1), -2, api.ErrNot},
		{"much too great", wagon(1), math.MaxInt, api.ErrNot},
		{"much too little", wagon(1), math.MinInt, api.ErrNot},
		{"no grade, and a clash", wagon(0, 2), 3, api.ErrNot},
		{"a grade that none has, and a clash", wagon(0, 2), 0, api.ErrClash},
		{"none, and a clash", wagon(0, 2), gate.None, api.ErrClash},
	} {
		m, e := gate.Show(mill(), x.c, x.grade)
		if e != x.want || e != api.OK && m != [4]int{} {
			t.Error("Show of", x.name, "is", m, e, "and its error should be", x.want)
		}
		is, _ := gate.Fits(mill(), x.c, m)
		has, _ := gate.Has(mill(), m)
		if e == api.OK && (!is || has != x.grade) {
			t.Error("Show of", x.name, "is", m, "which fits:", is, "and has", has)
		}
	}
	if _, e := gate.Show(gate.Gate{}, wagon(), 0); e != api.ErrNot {
		t.Error("without grades grade 0 has error", e)
	}
	if m, e := gate.Show(gate.Gate{}, wagon(), gate.None); e != api.OK || m[0]+m[1]+m[2]+m[3] != 40 {
		t.Error("without grades None is shown by", m, e)
	}
}

func TestGradesAgreeWithAllMixtures(t *testing.T) {
	seen := map[int]bool{}
	trials(t, 400, func(r *rand.Rand, g gate.Gate, c gate.Cart) {
		k := look(g, c)
		e := api.OK
		if len(k.fitting) == 0 {
			e = api.ErrClash
		}
		can, f := gate.Can(g, c)
		if !slices.Equal(can, k.can) || f != e {
			t.Error(g, c, "can have", can, f, "and should", k.can, e)
		}
		seen[len(can)] = true
		sure, want := 0, e
		if len(k.can) == 1 {
			sure = k.can[0]
		} else if e == api.OK {
			want = api.ErrNone
		}
		if got, f := gate.Sure(g, c); got != sure || f != want {
			t.Error(g, c, "has for certain", got, f, "and should have", sure, want)
		}
		for grade := gate.None; grade < len(g.Grades); grade++ {
			want := e
			if e == api.OK && !slices.Contains(k.can, grade) {
				want = api.ErrNone
			}
			m, f := gate.Show(g, c, grade)
			if f != want || f == api.OK && (!fitsAll(g, c, m) || gradeOf(g, m) != grade) {
				t.Error(g, c, grade, "is shown by", m, f, "and its error should be", want)
			}
		}
		m := mixtures[r.IntN(len(mixtures))]
		if got, e := gate.Has(g, m); got != gradeOf(g, m) || e != api.OK {
			t.Error(g, m, "has", got, e)
		}
	})
	for n := range 5 {
		if !seen[n] {
			t.Error("no trial can have just", n, "grades")
		}
	}
}
