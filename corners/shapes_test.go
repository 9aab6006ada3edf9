package corners_test

import (
	"slices"
	"testing"

	"knurl/api"
	"knurl/corners"
)

// counted is Points, point by point.
func counted(p []api.Point) []int {
	most := lengths(p)
	count := make([]int, 4)
	for x := -most; x <= most; x++ {
		for y := -most; y <= most; y++ {
			count[looked(p, api.Point{X: x, Y: y})]++
		}
	}
	return []int{count[api.Inside], count[api.OnSide]}
}

// P2.7, P2.12
func TestPoints(t *testing.T) {
	for _, x := range []struct {
		p    []api.Point
		want []int
	}{
		{dented(), []int{2, 14}}, {triangle(), []int{1, 6}}, {whole(), []int{399 * 399, 1600}}, {backwards(whole()), []int{399 * 399, 1600}}, {strip(), []int{0, 10}}, {points(0, 0, 1, 0, 0, 1), []int{0, 3}}, {points(-200, 0, 200, 1, -199, 1), []int{0, 401}},
	} {
		inside, sides, e := corners.Points(x.p)
		sameInts(t, "Points", []int{inside, sides}, e, x.want, api.OK)
	}
	n := numbers{state: 7}
	for range 3000 {
		p := n.polygon([...]int{2, 3, 6, 12}[n.from(0, 3)])
		inside, sides, e := corners.Points(p)
		sameInts(t, "Points", []int{inside, sides}, e, counted(p), api.OK)
	}
	polygons(12, 3000, func(_ *numbers, p []api.Point) {
		inside, sides, _ := corners.Points(p)
		twice, e := corners.Twice(p)
		sameInts(t, "Twice without its sign", []int{without(twice)}, e, []int{2*inside + sides - 2}, api.OK)
	})
}

// P2.8
func TestHull(t *testing.T) {
	eleven := append(strip(), api.Point{X: 2, Y: 0})
	for i, x := range []struct {
		l, want []api.Point
		e       api.Errno
	}{
		{dented(), points(0, 0, 4, 0, 4, 3, 0, 3), api.OK}, {backwards(dented()), points(0, 0, 4, 0, 4, 3, 0, 3), api.OK}, {triangle(), points(1, 1, 3, 1, 1, 4), api.OK},
		{strip(), points(0, 0, 4, 0, 4, 1, 0, 1), api.OK}, {whole(), whole(), api.OK}, {backwards(comb()), points(-200, -200, 200, -200, 200, 200, -100, 200), api.OK},
		{points(0, 0, 2, 2, 2, 0, 0, 2), points(0, 0, 2, 0, 2, 2, 0, 2), api.OK},                               // no polygon
		{points(5, 5, 5, 5, 0, 0, 5, 5, 5, 0, 0, 0), points(0, 0, 5, 0, 5, 5), api.OK},                         // equal ones
		{points(3, 1, 0, 2, 1, 0, -3, 0, 4, 0), points(-3, 0, 4, 0, 3, 1, 0, 2), api.OK},                       // several of the least Y
		{points(0, 5, 5, 0, -5, 0, 0, -5, 0, 0), points(0, -5, 5, 0, 0, 5, -5, 0), api.OK},                     // a point within
		{points(-1, 0, 200, 199, -200, -200, 200, 200), points(-200, -200, 200, 199, 200, 200, -1, 0), api.OK}, // nearly on a line
		{points(0, 0, 2, 2, 4, 4, 1, 1, 4, 0, 3, 1, 2, 0, 0, 0), points(0, 0, 4, 0, 4, 4), api.OK},             // on the sides of the hull
		{nil, nil, api.ErrNone}, {[]api.Point{}, nil, api.ErrNone}, {points(1, 1), nil, api.ErrNone}, {points(1, 1, 4, 5), nil, api.ErrNone}, {points(1, 1, 1, 1, 1, 1), nil, api.ErrNone},
		{points(0, 0, 2, 1, 4, 2), nil, api.ErrNone}, {points(3, 0, 3, -9, 3, 4, 3, 0), nil, api.ErrNone}, {points(4, 7, 1, 7, 2, 7), nil, api.ErrNone}, {points(-200, 200, 0, 0, 200, -200, 100, -100), nil, api.ErrNone},
		{slices.Repeat(points(1, 1, 4, 5), 5), nil, api.ErrNone},
		{eleven, nil, api.ErrArg}, {slices.Repeat(points(1, 1), 11), nil, api.ErrArg},
		{points(0, 0, 201, 0, 0, 1), nil, api.ErrArg}, {points(0, 0, -201, 0, 0, 1), nil, api.ErrArg}, {points(0, 0, 1, 0, 0, 201), nil, api.ErrArg}, {points(0, 0, 1, 0, 0, -201), nil, api.ErrArg},
		{points(0, 0, 201, 0), nil, api.ErrArg}, {points(0, 201), nil, api.ErrArg}, // before ErrNone
	} {
		h, e := corners.Hull(x.l)
		if !slices.Equal(h, x.want) || e != x.e {
			t.Errorf("%d: Hull = %v, %d; want %v, %d", i, h, e, x.want, x.e)
		}
	}
	for _, x := range wide() {
		if x < -api.MaxCoord || x > api.MaxCoord {
			for _, l := range [][]api.Point{points(0, 0, 1, 0, 0, x), points(x, 0, 0, 1, 1, 0), points(x, x)} {
				if h, e := corners.Hull(l); h != nil || e != api.ErrArg {
					t.Errorf("Hull of %v = %v, %d", l, h, e)
				}
			}
		}
	}
}

// needed returns whether a point is a corner of the hull of some others and it: whether it is in no triangle or line of them.
func needed(c api.Point, l []api.Point) bool {
	for _, p := range l {
		for _, q := range l {
			if p == c || q == c {
				continue
			}
			if onSegment(p, q, c) {
				return false
			}
			for _, r := range l {
				a, b, d := sign(cross(p, q, c)), sign(cross(q, r, c)), sign(cross(r, p, c))
				if r != c && a != 0 && a == b && b == d {
					return false
				}
			}
		}
	}
	return true
}

// P2.8: the corners are just the points that are needed; they go around to the left, from the lowest one, and leave no point to the right.
func TestHulls(t *testing.T) {
	n := numbers{state: 8}
	for range 10000 {
		most := [...]int{1, 2, 4, 20, api.MaxCoord}[n.from(0, 4)]
		l := make([]api.Point, n.from(3, api.MaxCorners))
		for i := range l {
			l[i] = n.point(most)
		}
		h, e := corners.Hull(l)
		if onOneLine(l) {
			if h != nil || e != api.ErrNone {
				t.Errorf("Hull of %v = %v, %d", l, h, e)
			}
			continue
		}
		if e != api.OK || len(h) == 0 || corners.Check(h) != api.OK {
			t.Fatalf("Hull of %v = %v, %d", l, h, e)
		}
		for _, c := range l {
			if needed(c, l) != slices.Contains(h, c) || c.Y < h[0].Y || c.Y == h[0].Y && c.X < h[0].X {
				t.Errorf("Hull of %v = %v; %v", l, h, c)
			}
			for i, a := range h {
				if cross(a, next(h, i), c) < 0 {
					t.Errorf("Hull of %v = %v; %v is to the right of a side", l, h, c)
				}
			}
		}
		for _, c := range h {
			if !slices.Contains(l, c) {
				t.Errorf("Hull of %v = %v; %v is new", l, h, c)
			}
		}
	}
}

func onOneLine(l []api.Point) bool {
	for _, a := range l {
		for _, b := range l {
			for _, c := range l {
				if cross(a, b, c) != 0 {
					return false
				}
			}
		}
	}
	return true
}

// P2.14
func TestTheHull(t *testing.T) {
	polygons(14, 3000, func(_ *numbers, p []api.Point) {
		h, e := corners.Hull(p)
		if e != api.OK {
			t.Fatalf("Hull of %v: %d", p, e)
		}
		within := false
		for _, c := range p {
			where, _ := corners.Where(h, c)
			within = within || where == api.Inside
			if where == api.Outside {
				t.Errorf("%v is outside the hull of %v", c, p)
			}
		}
		twice, _ := corners.Twice(p)
		more, _ := corners.Twice(h)
		if more < without(twice) || !within && more != without(twice) {
			t.Errorf("Twice of the hull of %v = %d", p, more)
		}
	})
}

// fit returns whether triangles fit together: how often the line between each two corners goes around them.
func fit(l [][3]int, corners int) bool {
	for b := range corners {
		for a := range b {
			sum := 0
			for _, t := range l {
				for _, pair := range [][3]int{{t[0], t[1], 1}, {t[1], t[2], 1}, {t[0], t[2], -1}} {
					if pair[0] == a && pair[1] == b {
						sum += pair[2]
					}
				}
			}
			want := 0
			if b == a+1 {
				want++
			}
			if a == 0 && b == corners-1 {
				want--
			}
			if sum != want {
				return false
			}
		}
	}
	return true
}

// P2.9, P2.13
func TestTriangles(t *testing.T) {
	// The only ones that there are.
	for i, x := range []struct {
		p    []api.Point
		want [][3]int
	}{
		{triangle(), [][3]int{{0, 1, 2}}}, {dented(), [][3]int{{0, 1, 3}, {0, 3, 4}, {1, 2, 3}}},
		{points(0, 0, 4, 1, 0, 2, 1, 1), [][3]int{{0, 1, 3}, {1, 2, 3}}},
	} {
		l, e := corners.Triangles(x.p)
		slices.SortFunc(l, func(a, b [3]int) int { return slices.Compare(a[:], b[:]) })
		if !slices.Equal(l, x.want) || e != api.OK {
			t.Errorf("%d: Triangles = %v, %d", i, l, e)
		}
	}
	// As none goes around the other way, and the sums are those of the polygon, nothing is covered twice.
	polygons(9, 10000, func(_ *numbers, p []api.Point) {
		l, e := corners.Triangles(p)
		if e != api.OK || len(l) != len(p)-2 || !fit(l, len(p)) {
			t.Fatalf("Triangles of %v = %v, %d", p, l, e)
		}
		twice, _ := corners.Twice(p)
		sums := make([]int, 6)
		for _, c := range l {
			if c[0] < 0 || c[0] >= c[1] || c[1] >= c[2] || c[2] >= len(p) {
				t.Fatalf("Triangles of %v = %v", p, l)
			}
			q := []api.Point{p[c[0]], p[c[1]], p[c[2]]}
			two, _ := corners.Twice(q)
			if sign(two) == -sign(twice) {
				t.Errorf("the triangle %v of %v goes around the other way", c, p)
			}
			one, _ := first(q)
			more, _ := second(q)
			for i, n := range slices.Concat([]int{two}, one, more) {
				sums[i] += n
			}
		}
		one, _ := first(p)
		more, _ := second(p)
		sameInts(t, "sums of the triangles", sums, api.OK, slices.Concat([]int{twice}, one, more), api.OK)
	})
}

// P2.9: no triangle goes beyond the polygon, and each inner point is in one, or on the sides of some.
func TestCovered(t *testing.T) {
	n := numbers{state: 19}
	for range 1000 {
		p := n.polygon([...]int{3, 6, 10}[n.from(0, 2)])
		l, _ := corners.Triangles(p)
		most := lengths(p)
		for range 30 {
			at := n.point(most)
			count := make([]int, 4)
			for _, c := range l {
				q := []api.Point{p[c[0]], p[c[1]], p[c[2]]}
				if !onOneLine(q) {
					count[looked(q, at)]++
				}
			}
			where := looked(p, at)
			ok := map[int]bool{
				api.Inside:  count[api.Inside] == 1 && count[api.OnSide] == 0 || count[api.Inside] == 0 && count[api.OnSide] > 1,
				api.OnSide:  count[api.Inside] == 0 && count[api.OnSide] > 0,
				api.Outside: count[api.Inside]+count[api.OnSide] == 0,
			}[where]
			if !ok {
				t.Errorf("Triangles of %v = %v: %v (%d) is in %d, and on the sides of %d", p, l, at, where, count[api.Inside], count[api.OnSide])
			}
		}
	}
}
