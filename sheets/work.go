package sheets

import (
	"math"

	"knurl/api"
)

// whole is the factor of a direction that has not shrunk.
const whole = 1000

// work is a valid sheet at work.
type work struct{ api.Sheet }

// spread returns a sheet at work; ErrSheet unless it is valid, ErrNone if there is no truth.
func spread(s api.Sheet) (work, api.Errno) {
	if e := Check(s); e != api.OK {
		return work{}, e
	}
	w := work{s}
	for range w.truths {
		return w, api.OK
	}
	return work{}, api.ErrNone
}

// cases yields all factors of both spans, however many controls are not right.
func (w work) cases(yield func(factors) bool) {
	for across := w.Across.Low; across <= w.Across.High; across++ {
		for along := w.Along.Low; along <= w.Along.High; along++ {
			if !yield(factors{across: across, along: along}) {
				return
			}
		}
	}
}

// truths yields all truths.
func (w work) truths(yield func(factors) bool) {
	for f := range w.cases {
		if w.wrong(f) <= w.Wrong && !yield(f) {
			return
		}
	}
}

// wrong returns how many controls are not right.
func (w work) wrong(f factors) int {
	wrong := 0
	for _, c := range w.Controls {
		if !f.fit(c) {
			wrong++
		}
	}
	return wrong
}

// known returns whether something is so in each truth, in none, or in some. There is a truth.
func (w work) known(isSo func(factors) bool) int {
	some, all := false, true
	for f := range w.truths {
		so := isSo(f)
		some = some || so
		all = all && so
		if some != all { // what comes next changes nothing
			return api.Perhaps
		}
	}
	if all {
		return api.Surely
	}
	return api.Never
}

// bounds returns the bounds of a fraction, which is not below 0. There is a truth.
func (w work) bounds(fraction func(factors) (num, den int)) api.Span {
	b := api.Span{Low: math.MaxInt}
	for f := range w.truths {
		num, den := fraction(f)
		b.Low = min(b.Low, num/den)
		b.High = max(b.High, (num+den-1)/den)
	}
	return b
}

func validSpan(s api.Span) bool {
	return api.MinShrink <= s.Low && s.Low <= s.High && s.High <= api.MaxShrink
}

func validControl(c api.Control) bool {
	return isWay(c.Way) && within(c.True, 1, api.MaxDistance) && within(c.Read, 0, api.MaxDistance) && within(c.Off, 0, api.MaxDistance)
}

func isWay(n int) bool {
	return n == api.Across || n == api.Along
}

// inReach returns whether a point can be a corner of a polygon.
func inReach(c api.Point) bool {
	return within(c.X, -api.MaxCoord, api.MaxCoord) && within(c.Y, -api.MaxCoord, api.MaxCoord)
}

func within(n, low, high int) bool {
	return low <= n && n <= high
}
