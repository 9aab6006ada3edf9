package corners

import (
	"cmp"
	"slices"

	"knurl/api"
)

// Points returns how many integer points are inside, and how many are on sides.
func Points(p []api.Point) (inside, sides int, e api.Errno) {
	if e := Check(p); e != api.OK {
		return 0, 0, e
	}
	sides = total(p, func(s side) int { return divisor(s.to.X-s.from.X, s.to.Y-s.from.Y) })
	// By Pick's theorem the doubled area is twice the points inside, and those on sides, less 2.
	inside = (withoutSign(doubled(p)) - sides + 2) / 2
	return inside, sides, api.OK
}

// Hull returns the hull of points.
func Hull(l []api.Point) ([]api.Point, api.Errno) {
	if len(l) > api.MaxCorners {
		return nil, api.ErrArg
	}
	for _, c := range l {
		if !inReach(c) {
			return nil, api.ErrArg
		}
	}
	upwards := slices.Clone(l)
	slices.SortFunc(upwards, func(a, b api.Point) int {
		return cmp.Or(cmp.Compare(a.Y, b.Y), cmp.Compare(a.X, b.X))
	})
	upwards = slices.Compact(upwards)
	right := bulge(upwards)
	slices.Reverse(upwards)
	hull := slices.Concat(right, bulge(upwards))
	if len(hull) < api.MinCorners {
		return nil, api.ErrNone
	}
	return hull, api.OK
}

// bulge returns the corners of the hull from the first to the last one of points that are sorted, those that have the others to their left, without the last one: the way back begins with it.
func bulge(sorted []api.Point) []api.Point {
	var kept []api.Point
	for _, c := range sorted {
		for len(kept) > 1 && (side{from: kept[len(kept)-2], to: kept[len(kept)-1]}).turn(c) <= 0 {
			kept = kept[:len(kept)-1]
		}
		kept = append(kept, c)
	}
	return kept[:max(len(kept)-1, 0)]
}

// Triangles returns triangles of a polygon, none of them flat.
func Triangles(p []api.Point) ([][3]int, api.Errno) {
	if e := Check(p); e != api.OK {
		return nil, e
	}
	left := doubled(p) > 0
	var rest []int
	for c := range p {
		rest = append(rest, c)
	}
	var l [][3]int
	for len(rest) > 3 {
		i := ear(p, rest, left)
		l = append(l, around(rest, i))
		rest = slices.Delete(rest, i, i+1)
	}
	return append(l, around(rest, 1)), api.OK
}

// ear returns the place in rest of a corner whose triangle with its neighbours can be cut off: it is on the inner side, and has no other corner, not even on its sides. There always is one: each polygon has triangles that are not flat, also if it goes straight on at some corners, and two of them at least have two sides of the polygon each.
func ear(p []api.Point, rest []int, left bool) int {
corners:
	for i := range rest {
		n := around(rest, i)
		triangle := []api.Point{p[n[0]], p[n[1]], p[n[2]]}
		if area := doubled(triangle); area == 0 || (area > 0) != left {
			continue
		}
		for _, c := range rest {
			if !slices.Contains(n[:], c) && lies(triangle, p[c]) != api.Outside {
				continue corners
			}
		}
		return i
	}
	return 0 // never reached, as rest is always a polygon
}

// around returns the corner at a place in rest and both its neighbours there, ascending. Sorting them never swaps just two of them, so that the triangle keeps the sense in which the corners go around.
func around(rest []int, i int) [3]int {
	n := [3]int{rest[(i+len(rest)-1)%len(rest)], rest[i], rest[(i+1)%len(rest)]}
	slices.Sort(n[:])
	return n
}
