package arms

import "knurl/api"

// wish is an arm, the area for which one division of its wheel should stand on the ground, and the scale of the map.
type wish struct {
	api.Arm
	want  api.Ratio
	scale int
}

// Value returns the area that one division of the wheel stands for.
func Value(a api.Arm, steps int) (api.Ratio, api.Errno) {
	if e := checkArm(a); e != api.OK {
		return api.Ratio{}, e
	}
	if !isSetting(a, steps) {
		return api.Ratio{}, api.ErrArg
	}
	num, den := oneStep(a)
	return reduced(steps*num, den)
}

// Set returns the setting whose value is nearest to a ratio.
func Set(a api.Arm, want api.Ratio) (int, api.Errno) {
	return Scale(a, 1, want)
}

// Off returns by which part of the wanted ratio a value differs from it.
func Off(a api.Arm, steps int, want api.Ratio) (api.Ratio, api.Errno) {
	w := wish{Arm: a, want: want, scale: 1}
	if e := w.check(); e != api.OK {
		return api.Ratio{}, e
	}
	if !isSetting(a, steps) {
		return api.Ratio{}, api.ErrArg
	}
	return w.off(steps)
}

// Scale returns the setting for a map.
func Scale(a api.Arm, scale int, want api.Ratio) (int, api.Errno) {
	w := wish{Arm: a, want: want, scale: scale}
	if e := w.check(); e != api.OK {
		return 0, e
	}
	return w.nearest(), api.OK
}

func (w wish) check() api.Errno {
	if e := checkArm(w.Arm); e != api.OK {
		return e
	}
	if e := checkRatios(w.want); e != api.OK {
		return e
	}
	if w.want.Num < 1 || w.scale < 1 || w.scale > api.MaxScale {
		return api.ErrArg
	}
	return api.OK
}

// nearest returns the setting whose value is nearest to the wanted area on paper.
func (w wish) nearest() int {
	num, den := oneStep(w.Arm)
	top := w.want.Num * den
	bottom := w.want.Den * num * w.scale * w.scale
	steps := top / bottom
	if 2*(top%bottom) > bottom { // just a half stays at the lesser setting
		steps++
	}
	return min(max(steps, w.Low), w.High)
}

// off returns the distance of a setting's value to the wanted area, divided by this area. It is worked out in one, as the value need not be a valid ratio by itself.
func (w wish) off(steps int) (api.Ratio, api.Errno) {
	num, den := oneStep(w.Arm)
	wanted := w.want.Num * den
	return reduced(withoutSign(steps*num*w.want.Den-wanted), wanted)
}

// checkArm returns ErrArm unless an arm is valid.
func checkArm(a api.Arm) api.Errno {
	for _, part := range [4]int{a.Unit.Num, a.Unit.Den, a.Roll.Num, a.Roll.Den} {
		if part < 1 || part > api.MaxPart {
			return api.ErrArm
		}
	}
	if a.Low < 1 || a.Low > a.High || a.High > api.MaxSteps {
		return api.ErrArm
	}
	return api.OK
}

func isSetting(a api.Arm, steps int) bool {
	return steps >= a.Low && steps <= a.High
}

// oneStep returns the area by which the value grows with each step, which need not be reduced.
func oneStep(a api.Arm) (num, den int) {
	return a.Unit.Num * a.Roll.Num, a.Unit.Den * a.Roll.Den
}
