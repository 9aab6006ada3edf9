package curves

import (
	"iter"

	"knurl/api"
)

// traces yields the trace of each place, from the first one on, with values by a rule. It has just the states of truths.
func (p pen) traces(r rule) iter.Seq2[int, trace] {
	return func(yield func(int, trace) bool) {
		t := p.first(r)
		for place := range p.Long + 1 {
			if place > 0 {
				t = p.after(t, place, r)
			}
			p.drop(t, place)
			if !yield(place, t) {
				return
			}
		}
	}
}

// first returns what the pen can draw at the first place.
func (p pen) first(r rule) trace {
	t := trace{}
	for height := range p.heights {
		t.join(state{height, p.missed(0, height)}, sum{}.by(r, step{0, height, height}))
	}
	return t
}

// after returns what the pen can draw until a place, behind the trace of the place before it.
func (p pen) after(t trace, place int, r rule) trace {
	next := trace{}
	for at, s := range t {
		for height := range p.near(at.height) {
			next.join(state{height, at.wrong + p.missed(place, height)}, s.by(r, step{place, at.height, height}))
		}
	}
	return next
}

// drop deletes all states of a trace from which the pen cannot go on to the last place.
func (p pen) drop(t trace, place int) {
	for at := range t {
		if at.wrong+p.ahead[place][at.height] > p.Wrong {
			delete(t, at)
		}
	}
}

// span returns the least and the greatest value by a rule at a place, or ErrNone if there is no truth.
func (p pen) span(at int, r rule) (api.Span, api.Errno) {
	for place, t := range p.traces(r) {
		if place == at {
			return t.span()
		}
	}
	return api.Span{}, api.ErrNone
}

// next returns the place at which the greatest doubt of all heights is least, or ErrNone if nowhere is there more than one height.
func (p pen) next() (int, api.Errno) {
	best, least, e := 0, 0, api.ErrNone
	ahead := p.backwards()
	for place, t := range p.traces(areaFrom(0)) {
		whole := p.whole(place, t, ahead[p.Long-place])
		if len(whole) < 2 {
			continue
		}
		if doubt := whole.doubt(); e != api.OK || doubt < least {
			best, least, e = place, doubt, api.OK
		}
	}
	return best, e
}

// backwards returns the traces of the mirrored curve, which is valid as the curve is.
func (p pen) backwards() []trace {
	mirrored, _ := newPen(p.mirrored())
	var l []trace
	for _, t := range mirrored.traces(areaFrom(0)) {
		l = append(l, t)
	}
	return l
}

// whole returns for each height at a place what can be drawn from the first place to the last one. Both traces count the knots at the place.
func (p pen) whole(place int, behind, ahead trace) trace {
	whole := trace{}
	for at, s := range behind {
		most := p.Wrong - at.wrong + p.missed(place, at.height)
		for wrong := range most + 1 {
			if other, found := ahead[state{at.height, wrong}]; found {
				whole.join(state{height: at.height}, s.plus(other))
			}
		}
	}
	return whole
}
