package arms_test

import (
	"math/big"
	"testing"

	"knurl/api"
	"knurl/arms"
)

// arm is A of the chapter's examples.
func arm() api.Arm { return api.Arm{Unit: ratio(1, 2), Roll: ratio(3, 10), Low: 10, High: 200} }

// long is the arm with the greatest values.
func long() api.Arm {
	return api.Arm{Unit: ratio(100, 1), Roll: ratio(100, 1), Low: 1, High: api.MaxSteps}
}

// fine is the arm with the least values.
func fine() api.Arm {
	return api.Arm{Unit: ratio(1, 100), Roll: ratio(1, 100), Low: 1, High: api.MaxSteps}
}

func valueOf(a api.Arm, steps int) *big.Rat {
	x := new(big.Rat).Mul(exact(a.Unit), exact(a.Roll))
	return x.Mul(x, big.NewRat(int64(steps), 1))
}

// triedSetting is the nearest setting, by trying all.
func triedSetting(a api.Arm, want *big.Rat) int {
	var best int
	var bestFar *big.Rat
	for steps := a.Low; steps <= a.High; steps++ {
		far := new(big.Rat).Sub(valueOf(a, steps), want)
		far.Abs(far)
		if bestFar == nil || far.Cmp(bestFar) < 0 {
			best, bestFar = steps, far
		}
	}
	return best
}

// badArms are arms that are not valid, each for one reason.
func badArms() []api.Arm {
	var l []api.Arm
	for _, bad := range []int{-1, 0, api.MaxPart + 1} {
		for part := range 4 {
			a := arm()
			*[]*int{&a.Unit.Num, &a.Unit.Den, &a.Roll.Num, &a.Roll.Den}[part] = bad
			l = append(l, a)
		}
	}
	for _, ends := range [][2]int{{0, 200}, {-1, 200}, {201, 200}, {10, api.MaxSteps + 1}, {10, -1}, {0, 0}, {api.MaxSteps + 1, api.MaxSteps + 1}} {
		a := arm()
		a.Low, a.High = ends[0], ends[1]
		l = append(l, a)
	}
	return append(l, api.Arm{})
}

// P1.5
func TestValue(t *testing.T) {
	for _, x := range []struct {
		a     api.Arm
		steps int
		want  api.Ratio
		e     api.Errno
	}{
		{arm(), 40, ratio(6, 1), api.OK}, {arm(), 47, ratio(141, 20), api.OK}, {arm(), 10, ratio(3, 2), api.OK}, {arm(), 200, ratio(30, 1), api.OK},
		{arm(), 9, api.Ratio{}, api.ErrArg}, {arm(), 201, api.Ratio{}, api.ErrArg}, {arm(), 0, api.Ratio{}, api.ErrArg}, {arm(), -40, api.Ratio{}, api.ErrArg},
		{long(), 100, ratio(api.MaxTerm, 1), api.OK}, {long(), 101, api.Ratio{}, api.ErrMany}, {long(), api.MaxSteps, api.Ratio{}, api.ErrMany},
		{long(), 0, api.Ratio{}, api.ErrArg}, {long(), api.MaxSteps + 1, api.Ratio{}, api.ErrArg},
		{fine(), 1, ratio(1, 10000), api.OK}, {fine(), api.MaxSteps, ratio(1, 1), api.OK},
		{api.Arm{Unit: ratio(100, 99), Roll: ratio(100, 97), Low: 1, High: 200}, 100, ratio(api.MaxTerm, 9603), api.OK},
		{api.Arm{Unit: ratio(100, 99), Roll: ratio(100, 97), Low: 1, High: 200}, 101, api.Ratio{}, api.ErrMany},
		{api.Arm{Unit: ratio(100, 99), Roll: ratio(100, 97), Low: 1, High: 200}, 198, ratio(20000, 97), api.OK}, // valid once it is reduced
		{api.Arm{Unit: ratio(2, 4), Roll: ratio(6, 20), Low: 40, High: 40}, 40, ratio(6, 1), api.OK},
	} {
		r, e := arms.Value(x.a, x.steps)
		sameRatio(t, "Value", r, e, x.want, x.e)
	}
	n := numbers{state: 5}
	for range 5000 {
		a := n.arm(50)
		steps := n.from(a.Low, a.High)
		want, wantE := told(valueOf(a, steps))
		r, e := arms.Value(a, steps)
		sameRatio(t, "Value", r, e, want, wantE)
	}
}

// P1.6
func TestSet(t *testing.T) {
	for _, x := range []struct {
		a     api.Arm
		want  api.Ratio
		steps int
	}{
		{arm(), ratio(7, 1), 47}, {arm(), ratio(1, 1), 10}, {arm(), ratio(1000, 1), 200}, {arm(), ratio(6, 1), 40}, {arm(), ratio(12, 2), 40},
		{arm(), ratio(243, 40), 40}, {arm(), ratio(244, 40), 41}, // 243 / 40 is just between 40 and 41
		{arm(), ratio(63, 40), 10}, {arm(), ratio(64, 40), 11}, {arm(), ratio(1197, 40), 199}, {arm(), ratio(1198, 40), 200},
		{arm(), ratio(1, api.MaxTerm), 10}, {arm(), ratio(api.MaxTerm, 1), 200},
		{long(), ratio(api.MaxTerm, 1), 100}, {long(), ratio(15000, 1), 1}, {long(), ratio(15001, 1), 2}, {long(), ratio(1, api.MaxTerm), 1},
		{fine(), ratio(1, 1), api.MaxSteps}, {fine(), ratio(api.MaxTerm, 1), api.MaxSteps}, {fine(), ratio(1, 2), 5000}, {fine(), ratio(10001, 20000), 5000},
	} {
		n, e := arms.Set(x.a, x.want)
		sameInt(t, "Set", n, e, x.steps, api.OK)
	}
	n := numbers{state: 6}
	for range 1500 {
		a := n.arm(40)
		steps := n.from(a.Low, a.High)
		// Just what a setting has, just between two of them, and anything else.
		for _, want := range []*big.Rat{valueOf(a, steps), new(big.Rat).Add(valueOf(a, steps), new(big.Rat).Quo(valueOf(a, 1), big.NewRat(2, 1))), exact(n.ratio())} {
			r, e := told(want)
			if e != api.OK || r.Num < 1 {
				continue
			}
			got, e := arms.Set(a, r)
			sameInt(t, "Set", got, e, triedSetting(a, want), api.OK)
		}
	}
}

// P1.7
func TestOff(t *testing.T) {
	for _, x := range []struct {
		a          api.Arm
		steps      int
		want, part api.Ratio
		e          api.Errno
	}{
		{arm(), 47, ratio(7, 1), ratio(1, 140), api.OK}, {arm(), 40, ratio(6, 1), ratio(0, 1), api.OK}, {arm(), 10, ratio(1, 1), ratio(1, 2), api.OK},
		{arm(), 200, ratio(1000, 1), ratio(97, 100), api.OK}, {arm(), 200, ratio(40, 1), ratio(1, 4), api.OK},
		{arm(), 9, ratio(7, 1), api.Ratio{}, api.ErrArg}, {arm(), 201, ratio(7, 1), api.Ratio{}, api.ErrArg},
		{long(), api.MaxSteps, ratio(1, 1), api.Ratio{}, api.ErrMany}, {long(), 1, ratio(1, api.MaxTerm), api.Ratio{}, api.ErrMany},
		// Neither the value nor the difference is a valid ratio here, but what Off returns is one.
		{long(), api.MaxSteps, ratio(api.MaxTerm, 1), ratio(99, 1), api.OK}, {long(), 101, ratio(api.MaxTerm, 2), ratio(51, 50), api.OK},
		{long(), 100, ratio(api.MaxTerm, 1), ratio(0, 1), api.OK},
	} {
		r, e := arms.Off(x.a, x.steps, x.want)
		sameRatio(t, "Off", r, e, x.part, x.e)
	}
	n := numbers{state: 7}
	for range 5000 {
		a, want := n.arm(50), n.ratio()
		if want.Num < 1 {
			continue
		}
		steps := n.from(a.Low, a.High)
		x := new(big.Rat).Sub(valueOf(a, steps), exact(want))
		part, wantE := told(x.Quo(x.Abs(x), exact(want)))
		r, e := arms.Off(a, steps, want)
		sameRatio(t, "Off", r, e, part, wantE)
	}
}

// P1.8
func TestScale(t *testing.T) {
	for _, x := range []struct {
		a     api.Arm
		scale int
		want  api.Ratio
		steps int
	}{
		{arm(), 10, ratio(700, 1), 47}, {arm(), 1, ratio(7, 1), 47}, {arm(), 100, ratio(60000, 1), 40}, {arm(), 3, ratio(54, 1), 40}, {arm(), 2, ratio(243, 10), 40}, {arm(), 2, ratio(244, 10), 41},
		{arm(), 100, ratio(1, api.MaxTerm), 10}, {arm(), 97, ratio(api.MaxTerm, 999983), 10}, // the divided ratio is not valid
		{fine(), 100, ratio(999999, 1000), 1000}, {fine(), 97, ratio(999983, 999), 1064}, // nor here
	} {
		n, e := arms.Scale(x.a, x.scale, x.want)
		sameInt(t, "Scale", n, e, x.steps, api.OK)
	}
	n := numbers{state: 8}
	for range 1500 {
		a, scale := n.arm(40), n.from(1, api.MaxScale)
		square := big.NewRat(int64(scale*scale), 1)
		near := new(big.Rat).Mul(valueOf(a, n.from(a.Low, a.High)), square)
		for _, want := range []*big.Rat{near, exact(n.ratio())} {
			r, e := told(want)
			if e != api.OK || r.Num < 1 {
				continue
			}
			got, e := arms.Scale(a, scale, r)
			sameInt(t, "Scale", got, e, triedSetting(a, new(big.Rat).Quo(want, square)), api.OK)
		}
	}
	for _, scale := range wide() {
		_, e := arms.Scale(arm(), scale, ratio(7, 1))
		if want := scale >= 1 && scale <= api.MaxScale; want != (e == api.OK) || !want && e != api.ErrArg {
			t.Errorf("Scale with %d: %d", scale, e)
		}
	}
}

// The arm comes before the ratio, and the ratio before all else.
func TestSettingErrors(t *testing.T) {
	for _, a := range badArms() {
		for _, want := range append(badRatios(), ratio(0, 1), ratio(7, 1)) {
			for _, k := range []int{0, 40} {
				r, e := arms.Value(a, k)
				sameRatio(t, "Value", r, e, api.Ratio{}, api.ErrArm)
				n, e := arms.Set(a, want)
				sameInt(t, "Set", n, e, 0, api.ErrArm)
				r, e = arms.Off(a, k, want)
				sameRatio(t, "Off", r, e, api.Ratio{}, api.ErrArm)
				n, e = arms.Scale(a, k, want)
				sameInt(t, "Scale", n, e, 0, api.ErrArm)
			}
		}
	}
	wanted := func(want api.Ratio, code api.Errno) {
		t.Helper()
		for _, k := range []int{-1, 0, 40, 1000} {
			n, e := arms.Set(arm(), want)
			sameInt(t, "Set", n, e, 0, code)
			r, e := arms.Off(arm(), k, want)
			sameRatio(t, "Off", r, e, api.Ratio{}, code)
			n, e = arms.Scale(arm(), k, want)
			sameInt(t, "Scale", n, e, 0, code)
		}
	}
	for _, bad := range badRatios() {
		wanted(bad, api.ErrRatio)
	}
	for _, none := range []api.Ratio{ratio(0, 1), ratio(0, api.MaxTerm), ratio(-7, 1), ratio(-1, api.MaxTerm)} {
		wanted(none, api.ErrArg)
	}
}

// P1.14
func TestTheSetting(t *testing.T) {
	n := numbers{state: 14}
	for range 1500 {
		a := n.arm(30)
		steps := n.from(a.Low, a.High)
		just, e := arms.Value(a, steps)
		for _, want := range []api.Ratio{just, n.ratio()} {
			if e != api.OK || want.Num < 1 {
				continue
			}
			set, _ := arms.Set(a, want)
			exists := false
			for s := a.Low; s <= a.High; s++ {
				far := new(big.Rat).Sub(valueOf(a, s), exact(want))
				near := new(big.Rat).Sub(valueOf(a, set), exact(want))
				if far.Abs(far).Cmp(near.Abs(near)) < 0 {
					t.Errorf("Set of %v, %v = %d; %d is nearer", a, want, set, s)
				}
				exists = exists || far.Sign() == 0
			}
			if part, e := arms.Off(a, set, want); (e == api.OK && part == ratio(0, 1)) != exists {
				t.Errorf("Off of %v, %d, %v = %v, %d", a, set, want, part, e)
			}
			greater := n.ratio()
			if order, _ := arms.Compare(greater, want); order > 0 {
				if more, _ := arms.Set(a, greater); more < set {
					t.Errorf("Set of %v: %d of %v, %d of %v", a, set, want, more, greater)
				}
			}
		}
	}
}

// P1.15
func TestScales(t *testing.T) {
	n := numbers{state: 15}
	for range 500 {
		a, want := n.arm(api.MaxSteps-1), n.ratio()
		if want.Num < 1 {
			continue
		}
		before, e := arms.Set(a, want)
		one, e1 := arms.Scale(a, 1, want)
		sameInt(t, "Scale with 1", one, e1, before, e)
		for scale := 2; scale <= api.MaxScale; scale++ {
			got, _ := arms.Scale(a, scale, want)
			if got > before {
				t.Errorf("Scale of %v, %d, %v = %d; with the scale before %d", a, scale, want, got, before)
			}
			before = got
		}
	}
}
