package curves

import "knurl/api"

// state is a height at a place, and how many knots from the first place to this one are not right.
type state struct{ height, wrong int }

// step is a height at a place, and the height before it. (At the first place this is the same height.)
type step struct{ place, before, height int }

// rule returns a value behind a step, from the value before it. It must not become less if the value before it is greater: so the least and the greatest value are enough to go on.
type rule func(value int, s step) int

// heightOf is the height itself.
func heightOf(_ int, s step) int { return s.height }

// leanOf is by how much the height is greater than the one before it.
func leanOf(_ int, s step) int { return s.height - s.before }

// topFrom is the greatest height from a place on.
func topFrom(from int) rule {
	return func(value int, s step) int {
		if s.place <= from {
			return s.height
		}
		return max(value, s.height)
	}
}

// areaFrom is the integral from a place on.
func areaFrom(from int) rule {
	return func(value int, s step) int {
		if s.place <= from {
			return 0
		}
		return value + s.before + s.height
	}
}

// sum is the least and the greatest value in a state.
type sum struct{ api.Span }

// by returns the sum behind a step.
func (s sum) by(r rule, next step) sum {
	return sum{api.Span{Low: r(s.Low, next), High: r(s.High, next)}}
}

// plus returns both sums together.
func (s sum) plus(other sum) sum {
	return sum{api.Span{Low: s.Low + other.Low, High: s.High + other.High}}
}

// or returns the sum of all values that one of both has.
func (s sum) or(other sum) sum {
	return sum{api.Span{Low: min(s.Low, other.Low), High: max(s.High, other.High)}}
}

// trace is what a pen can draw until a place: the states there, with their sums.
type trace map[state]sum

// join adds a way to come to a state.
func (t trace) join(at state, s sum) {
	if other, found := t[at]; found {
		s = s.or(other)
	}
	t[at] = s
}

// span returns the least and the greatest value of all states, or ErrNone if there are none.
func (t trace) span() (api.Span, api.Errno) {
	if len(t) == 0 {
		return api.Span{}, api.ErrNone
	}
	all := trace{}
	for _, s := range t {
		all.join(state{}, s)
	}
	return all[state{}].Span, api.OK
}

// doubt returns the greatest difference of both values of a state.
func (t trace) doubt() int {
	most := 0
	for _, s := range t {
		most = max(most, s.High-s.Low)
	}
	return most
}
