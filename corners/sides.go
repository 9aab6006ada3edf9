package corners

import (
	"iter"

	"knurl/api"
)

// side goes from one corner to the next one.
type side struct{ from, to api.Point }

// sides yields the sides of a polygon, in order.
func sides(p []api.Point) iter.Seq[side] {
	return func(yield func(side) bool) {
		for i, c := range p {
			if !yield(side{from: c, to: p[(i+1)%len(p)]}) {
				return
			}
		}
	}
}

// total returns the sum of what each side of a polygon gives.
func total(p []api.Point, gives func(side) int) int {
	sum := 0
	for s := range sides(p) {
		sum += gives(s)
	}
	return sum
}

// turn returns the doubled area of the triangle of a side and a point: above 0 if the point is to the left of the line of the side, 0 if it is on this line, below 0 if it is to the right.
func (s side) turn(at api.Point) int {
	return (s.to.X-s.from.X)*(at.Y-s.from.Y) - (s.to.Y-s.from.Y)*(at.X-s.from.X)
}

// fan returns the turn of the point 0 0: such triangles of all sides, with their signs, make up the polygon.
func (s side) fan() int {
	return s.turn(api.Point{})
}

// has returns whether a point is one of the side, its ends included.
func (s side) has(at api.Point) bool {
	return s.turn(at) == 0 && between(s.from.X, at.X, s.to.X) && between(s.from.Y, at.Y, s.to.Y)
}

// passes returns whether a point is one of the side, but none of its ends.
func (s side) passes(at api.Point) bool {
	return at != s.from && at != s.to && s.has(at)
}

// parts returns whether the ends of another side lie to both sides of the line of this one.
func (s side) parts(t side) bool {
	from, to := s.turn(t.from), s.turn(t.to)
	return from < 0 && to > 0 || from > 0 && to < 0
}

// crossesRightOf returns whether the side crosses the line that goes from a point, not on the side, to the right. A corner on this line counts as below it, so that two sides that meet there are counted once if they go on, and twice or not at all if they turn back.
func (s side) crossesRightOf(at api.Point) bool {
	if s.from.Y > at.Y {
		return s.to.Y <= at.Y && s.turn(at) < 0
	}
	return s.to.Y > at.Y && s.turn(at) > 0
}

// between returns whether b is from a to c, or from c to a.
func between(a, b, c int) bool {
	return min(a, c) <= b && b <= max(a, c)
}
