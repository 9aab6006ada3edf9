package corners_test

import (
	"math"
	"slices"
	"testing"

	"knurl/api"
)

// points pairs numbers to points.
func points(n ...int) []api.Point {
	var l []api.Point
	for i := 0; i < len(n); i += 2 {
		l = append(l, api.Point{X: n[i], Y: n[i+1]})
	}
	return l
}

// dented and triangle are P and Q of the chapter's examples.
func dented() []api.Point { return points(0, 0, 4, 0, 4, 3, 2, 1, 0, 3) }

func triangle() []api.Point { return points(1, 1, 1, 4, 3, 1) }

// comb has as many corners as a polygon can have, and many turns to the right.
func comb() []api.Point {
	return points(-200, -200, 200, -200, 200, 200, 150, -199, 100, 200, 50, -199, 0, 200, -50, -199, -100, 200, -150, -199)
}

// strip goes straight on at many corners.
func strip() []api.Point { return points(0, 0, 1, 0, 2, 0, 3, 0, 4, 0, 4, 1, 3, 1, 2, 1, 1, 1, 0, 1) }

// whole is the polygon with the greatest numbers.
func whole() []api.Point { return points(-200, -200, 200, -200, 200, 200, -200, 200) }

// wide are numbers at the ends of what an int and a limit can be.
func wide() []int {
	return []int{math.MinInt, math.MinInt + 1, -201, -200, -1, 0, 1, 2, 199, 200, 201, math.MaxInt - 1, math.MaxInt}
}

// badPolygons are polygons that are not valid, each for one reason.
func badPolygons() map[string][]api.Point {
	return map[string][]api.Point{
		"nil":                           nil,
		"empty":                         {},
		"one corner":                    points(1, 1),
		"two corners":                   points(0, 0, 1, 1),
		"eleven corners":                points(0, 0, 1, 0, 2, 0, 3, 0, 4, 0, 5, 0, 5, 1, 4, 1, 3, 1, 2, 1, 1, 1),
		"X too great":                   points(0, 0, 201, 0, 0, 1),
		"X too small":                   points(0, 0, -201, 0, 0, 1),
		"Y too great":                   points(0, 0, 1, 0, 0, 201),
		"Y too small":                   points(0, 0, 1, 0, 0, -201),
		"far beyond":                    points(0, 0, math.MaxInt, 0, 0, math.MinInt),
		"two equal ones":                points(0, 0, 4, 0, 4, 0, 0, 3),
		"the first one again":           points(0, 0, 4, 0, 0, 3, 0, 0),
		"equal ones, apart":             points(0, 0, 4, 0, 2, 2, 4, 4, 0, 4, 2, 2),
		"all equal":                     points(1, 1, 1, 1, 1, 1),
		"flat":                          points(0, 0, 2, 0, 4, 0),
		"flat, the middle one last":     points(0, 0, 4, 0, 2, 0),
		"flat and steep":                points(1, 1, 3, 3, 2, 2),
		"sides that cross":              points(0, 0, 2, 2, 2, 0, 0, 2),
		"a corner on a side":            points(0, 0, 4, 0, 4, 4, 2, 0, 0, 4),
		"a corner on the last side":     points(0, 0, 4, 0, 0, 2, 4, 4, 0, 4),
		"a way and back":                points(0, 0, 4, 0, 4, 4, 4, 2),
		"a way and farther back":        points(0, 0, 4, 0, 4, 2, 4, -2),
		"the last side back":            points(2, 0, 4, 0, 4, 4, 6, 0),
		"the last side on the first":    points(0, 0, 2, 0, 2, 2, 1, 0),
		"sides one on the other":        points(0, 0, 6, 0, 6, 2, 4, 0, 2, 0, 0, 2),
		"equal pieces, the same way":    points(0, 0, 3, 0, 3, 1, 1, 0, 4, 0, 4, 3),
		"crossing the last side":        points(0, 0, 4, 0, 4, 4, -1, 2, 0, 4),
		"a star":                        points(0, 3, 2, -3, -3, 1, 3, 1, -2, -3),
		"a touch of two corners beyond": points(0, 0, 8, 0, 8, 4, 4, 0, 0, 4),
	}
}

// numbers is a fixed sequence of numbers that follow no short rule.
type numbers struct{ state uint64 }

// from returns the next number, from low to high.
func (n *numbers) from(low, high int) int {
	n.state = n.state*6364136223846793005 + 1442695040888963407
	return low + int((n.state>>33)%uint64(high-low+1))
}

func (n *numbers) point(most int) api.Point {
	return api.Point{X: n.from(-most, most), Y: n.from(-most, most)}
}

// polygon returns a valid polygon with numbers from -most to most, with any number of corners that it can have, and in any sense. It grows from a triangle, side by side; in a small square, it often goes straight on.
func (n *numbers) polygon(most int) []api.Point {
	for {
		p := []api.Point{n.point(most), n.point(most), n.point(most)}
		if !plain(p) {
			continue
		}
		want := n.from(api.MinCorners, api.MaxCorners)
		for range 60 {
			if more := slices.Insert(slices.Clone(p), n.from(0, len(p)), n.point(most)); len(p) < want && plain(more) {
				p = more
			}
		}
		if n.from(0, 1) == 0 {
			slices.Reverse(p)
		}
		return p
	}
}

// polygons calls a test with polygons of all sizes.
func polygons(state uint64, times int, try func(n *numbers, p []api.Point)) {
	n := numbers{state: state}
	for range times {
		try(&n, n.polygon([...]int{2, 3, 5, 20, api.MaxCoord}[n.from(0, 4)]))
	}
	for _, p := range [][]api.Point{dented(), triangle(), comb(), strip(), whole()} {
		try(&n, p)
		try(&n, backwards(p))
	}
}

func backwards(p []api.Point) []api.Point {
	p = slices.Clone(p)
	slices.Reverse(p)
	return p
}

// each returns the points that are made of those of a list.
func each(p []api.Point, made func(c api.Point) api.Point) []api.Point {
	var l []api.Point
	for _, c := range p {
		l = append(l, made(c))
	}
	return l
}

// cross is the cross product of b - a and c - a.
func cross(a, b, c api.Point) int {
	return (b.X-a.X)*(c.Y-a.Y) - (b.Y-a.Y)*(c.X-a.X)
}

func sign(n int) int {
	switch {
	case n > 0:
		return 1
	case n < 0:
		return -1
	}
	return 0
}

func without(n int) int { return n * sign(n) }

// next returns the corner behind one.
func next(p []api.Point, i int) api.Point { return p[(i+1)%len(p)] }

// onSegment returns whether a point is from a to b: whether both are in line with it, and not to the same side.
func onSegment(a, b, at api.Point) bool {
	dot := (at.X-a.X)*(at.X-b.X) + (at.Y-a.Y)*(at.Y-b.Y)
	return cross(a, b, at) == 0 && dot <= 0
}

// common returns how many points two segments that are no points have in common: 0, 1, or 2 for more of them.
func common(a, b, c, d api.Point) int {
	by := (b.X-a.X)*(d.Y-c.Y) - (b.Y-a.Y)*(d.X-c.X)
	if by == 0 {
		if cross(a, b, c) != 0 {
			return 0
		}
		// Both are on one line: along it they are spans.
		along := func(p api.Point) int { return (p.X-a.X)*(b.X-a.X) + (p.Y-a.Y)*(b.Y-a.Y) }
		low := max(min(along(a), along(b)), min(along(c), along(d)))
		high := min(max(along(a), along(b)), max(along(c), along(d)))
		return 1 + sign(high-low)
	}
	// a + (b - a) * s / by is c + (d - c) * t / by
	s := ((c.X-a.X)*(d.Y-c.Y) - (c.Y-a.Y)*(d.X-c.X)) * sign(by)
	t := ((c.X-a.X)*(b.Y-a.Y) - (c.Y-a.Y)*(b.X-a.X)) * sign(by)
	if s < 0 || t < 0 || s > without(by) || t > without(by) {
		return 0
	}
	return 1
}

// plain is Check, by what each two sides have in common.
func plain(p []api.Point) bool {
	if len(p) < 3 || len(p) > 10 {
		return false
	}
	for i, c := range p {
		if c.X < -200 || c.X > 200 || c.Y < -200 || c.Y > 200 || slices.Contains(p[:i], c) {
			return false
		}
	}
	for i := range p {
		for j := range i {
			most := 0
			if i == j+1 || i == len(p)-1 && j == 0 {
				most = 1
			}
			if common(p[i], next(p, i), p[j], next(p, j)) > most {
				return false
			}
		}
	}
	return true
}

// looked is Where, by the sides that are seen from the point in a direction in which no corner can be (from an integer point, less than 1000 away), if the point is on no side.
func looked(p []api.Point, at api.Point) int {
	far := api.Point{X: at.X + 100000, Y: at.Y + 1}
	seen := 0
	for i, c := range p {
		if onSegment(c, next(p, i), at) {
			return api.OnSide
		}
		seen += common(at, far, c, next(p, i))
	}
	if seen%2 == 1 {
		return api.Inside
	}
	return api.Outside
}

// integral is that of x to the power i times y to the power j over the inside, times 24. It is worked out as that of x to i times y to j + 1, divided by j + 1, along the sides, against their sense. Along each side this has a degree of 3 at most, so that Simpson's rule tells it exactly from both ends and the middle.
func integral(p []api.Point, i, j int) int {
	at := func(x, y int) int { return power(x, i) * power(y, j+1) }
	sum := 0
	for k, a := range p {
		b := next(p, k)
		middle := at(a.X+b.X, a.Y+b.Y) * 32 / power(2, i+j+1)
		sum -= (b.X - a.X) * (8*at(a.X, a.Y) + middle + 8*at(b.X, b.Y))
	}
	return sum / (2 * (j + 1))
}

func power(x, n int) int {
	product := 1
	for range n {
		product *= x
	}
	return product
}

// sameInts fails the test unless the result of a call is what is wanted.
func sameInts(t *testing.T, call string, got []int, e api.Errno, want []int, wantE api.Errno) {
	t.Helper()
	if !slices.Equal(got, want) || e != wantE {
		t.Errorf("%s = %v, %d; want %v, %d", call, got, e, want, wantE)
	}
}
