package gate_test

import (
	"math"
	"math/rand/v2"
	"testing"

	"staddle/api"
	"staddle/gate"
)

func TestWeight(t *testing.T) {
	light := wagon()
	light.Full = 301
	heavy := gate.Cart{Full: 10000, Handfuls: []gate.Handful{handful(0, 200, 0, 0, 0)}}
	for _, x := range []struct {
		name string
		g    gate.Gate
		c    gate.Cart
		k    gate.Kind
		want api.Span
		e    api.Errno
	}{
		{"corn of the example", mill(), wagon(0, 1), gate.Corn, span(689, 728), api.OK},
		{"chaff of it", mill(), wagon(0, 1), gate.Chaff, span(89, 113), api.OK},
		{"stones of it", mill(), wagon(0, 1), gate.Stones, span(0, 45), api.OK},
		{"damp grains of it", mill(), wagon(0, 1), gate.Damp, span(44, 91), api.OK},
		{"corn of anything", mill(), wagon(), gate.Corn, span(0, 910), api.OK},
		{"a cart that weighs little", mill(), light, gate.Damp, span(0, 11), api.OK},
		{"as heavy as can be", gate.Gate{Err: 50}, heavy, gate.Corn, span(9900, 10100), api.OK},
		{"nothing of it", gate.Gate{Err: 50}, heavy, gate.Chaff, span(0, 0), api.OK},
		{"a clash", mill(), wagon(0, 2), gate.Damp, span(0, 0), api.ErrClash},
		{"no kind", mill(), wagon(0, 1), 4, span(0, 0), api.ErrNot},
		{"less than a kind", mill(), wagon(0, 1), -1, span(0, 0), api.ErrNot},
		{"far from a kind", mill(), wagon(0, 1), math.MaxInt, span(0, 0), api.ErrNot},
		{"no kind, and a clash", mill(), wagon(0, 2), 4, span(0, 0), api.ErrNot},
	} {
		if got, e := gate.Weight(x.g, x.c, x.k); got != x.want || e != x.e {
			t.Error("Weight of", x.name, "is", got, e, "and should be", x.want, x.e)
		}
	}
}

func TestPay(t *testing.T) {
	dear := gate.Gate{Err: 50, Grades: []gate.Grade{{Corn: 0, Chaff: 40, Stones: 40, Damp: 40, Price: 100}}}
	heavy := gate.Cart{Full: 10000}
	lighter := wagon(0, 1)
	lighter.Full = 310
	for _, x := range []struct {
		name string
		g    gate.Gate
		c    gate.Cart
		want api.Span
		e    api.Errno
	}{
		{"handfuls 0 and 1", mill(), wagon(0, 1), span(6230, 6370), api.OK},
		{"handful 1", mill(), wagon(1), span(0, 6370), api.OK},
		{"handful 2", mill(), wagon(2), span(0, 3640), api.OK},
		{"no handfuls", mill(), wagon(), span(0, 8190), api.OK},
		{"no grades", gate.Gate{Miss: 2}, wagon(0, 1), span(0, 0), api.OK},
		{"as dear as can be", dear, heavy, span(990000, 1010000), api.OK},
		{"a cart that can weigh nothing", mill(), lighter, span(0, 140), api.OK},
		{"a clash", mill(), wagon(0, 2), span(0, 0), api.ErrClash},
	} {
		if got, e := gate.Pay(x.g, x.c); got != x.want || e != x.e {
			t.Error("Pay of", x.name, "is", got, e, "and should be", x.want, x.e)
		}
	}
}

func TestPayBetweenTwoGrades(t *testing.T) {
	g := mill()
	g.Grades[2] = gate.Grade{Corn: 0, Chaff: 40, Stones: 40, Damp: 40, Price: 4}
	if got, e := gate.Pay(g, wagon(1)); got != span(3560, 6370) || e != api.OK {
		t.Error("Pay is", got, e)
	}
}

func TestWeightsAndPayAgreeWithAllMixtures(t *testing.T) {
	trials(t, 300, func(r *rand.Rand, g gate.Gate, c gate.Cart) {
		k := look(g, c)
		net := span(max(0, c.Full-c.Empty-2*g.Err), max(0, c.Full-c.Empty+2*g.Err))
		if len(k.fitting) == 0 {
			return
		}
		prices := span(gate.MaxPrice, 0)
		for _, m := range k.fitting {
			price := 0
			if grade := gradeOf(g, m); grade != gate.None {
				price = g.Grades[grade].Price
			}
			prices = span(min(prices.Lo, price), max(prices.Hi, price))
		}
		if got, e := gate.Pay(g, c); got != span(net.Lo*prices.Lo, net.Hi*prices.Hi) || e != api.OK {
			t.Error(g, c, "is paid", got, e, "with prices", prices)
		}
		for kind, b := range k.bounds {
			want := span(net.Lo*b.Lo/40, net.Hi*b.Hi/40)
			if got, e := gate.Weight(g, c, gate.Kind(kind)); got != want || e != api.OK {
				t.Error(g, c, "has weight", got, e, "of kind", kind, "and should have", want)
			}
		}
	})
}
