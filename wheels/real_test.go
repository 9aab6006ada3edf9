package wheels_test

import (
	"testing"

	"knurl/api"
	"knurl/arms"
	"knurl/wheels"
)

func ratio(num, den int) api.Ratio { return api.Ratio{Num: num, Den: den} }

// armA is A of the examples of layer 1.
func armA() api.Arm { return api.Arm{Unit: ratio(1, 2), Roll: ratio(3, 10), Low: 10, High: 200} }

// longArm has settings with values of any length: 8633 / 2 for each step.
func longArm() api.Arm { return api.Arm{Unit: ratio(97, 2), Roll: ratio(89, 1), Low: 1, High: 10000} }

// guessed is a wheel of which only the span of Guess matters.
func guessed(low, high int) api.Wheel {
	return api.Wheel{Full: 100, Guess: api.Span{Low: low, High: high}}
}

func sameReal(t *testing.T, w api.Wheel, l []api.Walk, a api.Arm, steps int, wantLow, wantHigh api.Ratio, wantE api.Errno) {
	t.Helper()
	low, high, e := wheels.Real(w, l, a, steps)
	if low != wantLow || high != wantHigh || e != wantE {
		t.Errorf("Real of %v, %v, %v, %d = %v, %v, %d; want %v, %v, %d", w, l, a, steps, low, high, e, wantLow, wantHigh, wantE)
	}
}

// P3.8
func TestReal(t *testing.T) {
	none := api.Ratio{}
	sameReal(t, wheelV(), []api.Walk{walkA(), walkB()}, armA(), 40, ratio(306, 1), ratio(330, 1), api.OK)
	sameReal(t, guessed(0, 0), nil, armA(), 40, ratio(0, 1), ratio(0, 1), api.OK)
	sameReal(t, guessed(0, 40), nil, armA(), 47, ratio(0, 1), ratio(282, 1), api.OK)
	sameReal(t, guessed(7, 30), nil, armA(), 47, ratio(987, 20), ratio(423, 2), api.OK)
	// 35 steps have the value 302155 / 2.
	sameReal(t, guessed(2, 6), nil, longArm(), 35, ratio(302155, 1), ratio(906465, 1), api.OK)
	sameReal(t, guessed(2, 5), nil, longArm(), 35, none, none, api.ErrMany)
	sameReal(t, guessed(5, 6), nil, longArm(), 35, none, none, api.ErrMany)
	sameReal(t, guessed(5, 7), nil, longArm(), 35, none, none, api.ErrMany)
	sameReal(t, guessed(0, 0), nil, longArm(), 35, ratio(0, 1), ratio(0, 1), api.OK)
	sameReal(t, guessed(0, 0), nil, longArm(), 10000, none, none, api.ErrMany) // the value is not valid
	sameReal(t, guessed(1, 100), nil, api.Arm{Unit: ratio(100, 1), Roll: ratio(100, 1), Low: 1, High: 1}, 1, ratio(10000, 1), ratio(api.MaxTerm, 1), api.OK)
	sameReal(t, guessed(1, 101), nil, api.Arm{Unit: ratio(100, 1), Roll: ratio(100, 1), Low: 1, High: 1}, 1, none, none, api.ErrMany)
}

// P3.8: the errors of Bound, then those of arms.Value, then ErrMany.
func TestRealErrors(t *testing.T) {
	none := api.Ratio{}
	far := []api.Walk{walk(1, 1, 0, 0, 99)} // no truth, with a Guess that does not have 99
	badArm := armA()
	badArm.Low = 0
	for name, w := range badWheels() {
		if low, high, e := wheels.Real(w, []api.Walk{{}}, badArm, 0); low != none || high != none || e != api.ErrWheel {
			t.Errorf("Real of the wheel %s = %v, %v, %d", name, low, high, e)
		}
	}
	for name, l := range badWalks() {
		if low, high, e := wheels.Real(wheelW(), l, badArm, 0); low != none || high != none || e != api.ErrWalk {
			t.Errorf("Real of the walks %s = %v, %v, %d", name, low, high, e)
		}
	}
	sameReal(t, guessed(2, 5), far, badArm, 0, none, none, api.ErrNone)
	sameReal(t, guessed(2, 5), far, longArm(), 0, none, none, api.ErrNone)
	sameReal(t, guessed(2, 5), far, longArm(), 10000, none, none, api.ErrNone)
	sameReal(t, guessed(2, 5), nil, badArm, 0, none, none, api.ErrArm)
	sameReal(t, guessed(2, 5), nil, longArm(), 0, none, none, api.ErrArg)
	sameReal(t, guessed(2, 5), nil, longArm(), 10001, none, none, api.ErrArg)
}

// P0.1
func TestRealArea(t *testing.T) {
	many := 0
	each(81, 3000, func(n *numbers, w api.Wheel, l []api.Walk) {
		a := [...]api.Arm{armA(), longArm()}[n.from(0, 1)]
		steps := n.from(a.Low, min(a.High, 230))
		value, valueE := arms.Value(a, steps)
		b, e := wheels.Bound(w, l)
		if e == api.OK {
			e = valueE
		}
		low, lowE := arms.Mul(value, ratio(b.Low, 1))
		high, highE := arms.Mul(value, ratio(b.High, 1))
		if e == api.OK && (lowE != api.OK || highE != api.OK) {
			e = api.ErrMany
		}
		if e != api.OK {
			sameReal(t, w, l, a, steps, api.Ratio{}, api.Ratio{}, e)
			return
		}
		sameReal(t, w, l, a, steps, low, high, api.OK)
		areas, _ := wheels.Areas(w, l)
		for _, area := range areas {
			real, e := arms.Mul(value, ratio(area, 1))
			if e != api.OK {
				continue
			}
			if c, e := arms.Compare(low, real); c > 0 || e != api.OK {
				t.Errorf("%v is below %v", real, low)
			}
			if c, e := arms.Compare(real, high); c > 0 || e != api.OK {
				t.Errorf("%v is above %v", real, high)
			}
			many++
		}
	})
	if many < 1000 {
		t.Errorf("only %d areas", many)
	}
}
