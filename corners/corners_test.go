package corners_test

import (
	"slices"
	"testing"

	"knurl/api"
	"knurl/corners"
)

// P2.1
func TestCheck(t *testing.T) {
	for name, p := range badPolygons() {
		if e := corners.Check(p); e != api.ErrPolygon {
			t.Errorf("%s: Check = %d", name, e)
		}
		if e := corners.Check(backwards(p)); e != api.ErrPolygon {
			t.Errorf("%s, backwards: Check = %d", name, e)
		}
	}
	for i, p := range [][]api.Point{
		dented(), triangle(), comb(), strip(), whole(),
		points(0, 0, 2, 0, 4, 0, 0, 3), points(2, 0, 4, 0, 0, 3, 0, 0), // straight on at a corner, also at the first one
		points(0, 0, 1, 0, 0, 1), points(-200, 0, 200, 1, -199, 1),
		points(0, 0, 4, 0, 4, 4, 2, 1, 0, 4), // a corner near a side
	} {
		for range p {
			p = append(p[1:], p[0])
			if e := corners.Check(p); e != api.OK {
				t.Errorf("%d: Check of %v = %d", i, p, e)
			}
			if e := corners.Check(backwards(p)); e != api.OK {
				t.Errorf("%d: Check of %v backwards = %d", i, p, e)
			}
		}
	}
}

// P2.1, for all lists of up to five points in a small square, and for some of more points.
func TestCheckAll(t *testing.T) {
	same := func(p []api.Point) {
		t.Helper()
		want := map[bool]api.Errno{true: api.OK, false: api.ErrPolygon}[plain(p)]
		if e := corners.Check(p); e != want {
			t.Fatalf("Check of %v = %d; want %d", p, e, want)
		}
	}
	for count := range 6 {
		lists := 1
		for range count {
			lists *= 9
		}
		for list := range lists {
			p := make([]api.Point, count)
			for i := range p {
				p[i] = api.Point{X: list % 3, Y: list / 3 % 3}
				list /= 9
			}
			same(p)
		}
	}
	n := numbers{state: 1}
	for range 10000 {
		p := n.polygon([...]int{2, 4, 10, api.MaxCoord}[n.from(0, 3)])
		same(p)
		p[n.from(0, len(p)-1)] = n.point(n.from(2, api.MaxCoord+1))
		same(p)
		i, j := n.from(0, len(p)-1), n.from(0, len(p)-1)
		p[i], p[j] = p[j], p[i]
		same(p)
	}
}

// P2.2
func TestTwice(t *testing.T) {
	for i, x := range []struct {
		p    []api.Point
		want int
	}{
		{dented(), 16}, {triangle(), -6}, {whole(), 320000}, {backwards(whole()), -320000}, {strip(), 8}, {points(0, 0, 1, 0, 0, 1), 1}, {points(0, 0, 0, 1, 1, 0), -1}, {points(-3, -2, 5, -2, 1, 6), 64},
	} {
		if n, e := corners.Twice(x.p); n != x.want || e != api.OK {
			t.Errorf("%d: Twice = %d, %d", i, n, e)
		}
	}
	polygons(2, 5000, func(_ *numbers, p []api.Point) {
		if n, e := corners.Twice(p); n*12 != integral(p, 0, 0) || e != api.OK {
			t.Errorf("Twice of %v = %d, %d; want %d / 12", p, n, e, integral(p, 0, 0))
		}
	})
}

// P2.3
func TestWhere(t *testing.T) {
	for i, x := range []struct {
		p    []api.Point
		at   api.Point
		want int
	}{
		{dented(), api.Point{X: 2, Y: 1}, api.OnSide}, {dented(), api.Point{X: 1, Y: 1}, api.Inside}, {dented(), api.Point{X: 2, Y: 2}, api.Outside}, {dented(), api.Point{X: 4, Y: 2}, api.OnSide},
		{dented(), api.Point{X: 3, Y: 1}, api.Inside}, {dented(), api.Point{X: 1, Y: 2}, api.OnSide}, {dented(), api.Point{X: 0, Y: 0}, api.OnSide}, {dented(), api.Point{X: 2, Y: 0}, api.OnSide},
		{dented(), api.Point{X: -1, Y: 1}, api.Outside}, {dented(), api.Point{X: -1, Y: 3}, api.Outside}, {dented(), api.Point{X: -1, Y: 0}, api.Outside}, {dented(), api.Point{X: 2, Y: 3}, api.Outside}, {dented(), api.Point{X: 5, Y: 0}, api.Outside}, {dented(), api.Point{X: 0, Y: 4}, api.Outside}, {dented(), api.Point{X: 8, Y: 6}, api.Outside},
		{triangle(), api.Point{X: 2, Y: 2}, api.Inside}, {triangle(), api.Point{X: 3, Y: 4}, api.Outside}, {triangle(), api.Point{X: 1, Y: 5}, api.Outside}, {triangle(), api.Point{X: 1, Y: 2}, api.OnSide},
		{whole(), api.Point{X: 200, Y: 200}, api.OnSide}, {whole(), api.Point{X: -200, Y: 7}, api.OnSide}, {whole(), api.Point{X: 199, Y: -199}, api.Inside},
	} {
		if n, e := corners.Where(x.p, x.at); n != x.want || e != api.OK {
			t.Errorf("%d: Where = %d, %d; want %d", i, n, e, x.want)
		}
	}
	polygons(3, 2000, func(n *numbers, p []api.Point) {
		most := min(lengths(p)+1, api.MaxCoord)
		ats := []api.Point{n.point(most), n.point(most), n.point(api.MaxCoord)}
		for i, c := range p { // on the height of a corner, and on a side
			d := next(p, i)
			ats = append(ats, c, api.Point{X: n.from(-most, most), Y: c.Y}, api.Point{X: (c.X + d.X) / 2, Y: (c.Y + d.Y) / 2})
		}
		for _, at := range ats {
			if k, e := corners.Where(p, at); k != looked(p, at) || e != api.OK {
				t.Errorf("Where of %v, %v = %d, %d; want %d", p, at, k, e, looked(p, at))
			}
		}
	})
}

// lengths is the greatest number of a polygon, without its sign.
func lengths(p []api.Point) int {
	most := 0
	for _, c := range p {
		most = max(most, without(c.X), without(c.Y))
	}
	return most
}

// P2.3: the polygon comes before the point.
func TestWhereErrors(t *testing.T) {
	for _, x := range wide() {
		for _, y := range wide() {
			at := api.Point{X: x, Y: y}
			want := map[bool]api.Errno{true: api.OK, false: api.ErrArg}[max(x, y) <= api.MaxCoord && min(x, y) >= -api.MaxCoord]
			if n, e := corners.Where(dented(), at); e != want || (n == 0) != (e != api.OK) {
				t.Errorf("Where of P, %v = %d, %d", at, n, e)
			}
			if n, e := corners.Where(points(0, 0, 2, 0, 4, 0), at); n != 0 || e != api.ErrPolygon {
				t.Errorf("Where of no polygon, %v = %d, %d", at, n, e)
			}
		}
	}
}

// P1, R1, R2: each function but Hull returns ErrPolygon, and nothing else.
func TestPolygonErrors(t *testing.T) {
	for name, p := range badPolygons() {
		zero := func(call string, e api.Errno, results ...int) {
			t.Helper()
			if e != api.ErrPolygon || slices.ContainsFunc(results, func(n int) bool { return n != 0 }) {
				t.Errorf("%s: %s = %v, %d", name, call, results, e)
			}
		}
		twice, e := corners.Twice(p)
		zero("Twice", e, twice)
		where, e := corners.Where(p, api.Point{X: 1, Y: 1})
		zero("Where", e, where)
		where, e = corners.Where(p, api.Point{X: 999})
		zero("Where", e, where)
		x, y, e := corners.First(p)
		zero("First", e, x, y)
		xx, xy, yy, e := corners.Second(p)
		zero("Second", e, xx, xy, yy)
		rx, ry, e := corners.Centre(p)
		zero("Centre", e, rx.Num, rx.Den, ry.Num, ry.Den)
		inside, sides, e := corners.Points(p)
		zero("Points", e, inside, sides)
		l, e := corners.Triangles(p)
		zero("Triangles", e, len(l))
	}
}

// P1, R5: no points make a function panic, and all functions agree on which ones are a polygon.
func TestAnyArguments(t *testing.T) {
	n := numbers{state: 4}
	pick := func() api.Point {
		return api.Point{X: wide()[n.from(0, len(wide())-1)], Y: wide()[n.from(0, len(wide())-1)]}
	}
	for range 20000 {
		p := make([]api.Point, n.from(0, 12))
		for i := range p {
			if p[i] = n.point(api.MaxCoord); n.from(0, 9) == 0 {
				p[i] = pick()
			}
		}
		want := corners.Check(p)
		_, twice := corners.Twice(p)
		_, where := corners.Where(p, api.Point{})
		_, _, first := corners.First(p)
		_, _, _, second := corners.Second(p)
		_, _, centre := corners.Centre(p)
		_, _, inside := corners.Points(p)
		l, triangles := corners.Triangles(p)
		for _, e := range []api.Errno{twice, where, first, second, centre, inside, triangles} {
			if e != want {
				t.Errorf("Check of %v = %d, another function: %d", p, want, e)
			}
		}
		if (l == nil) != (want != api.OK) {
			t.Errorf("Triangles of %v = %v", p, l)
		}
		if h, e := corners.Hull(p); (len(h) >= api.MinCorners) != (e == api.OK) || e != api.OK && h != nil {
			t.Errorf("Hull of %v = %v, %d", p, h, e)
		}
		_, _ = corners.Where(p, pick())
	}
}

// R4: no argument is changed, a result is new memory, and no state is kept.
func TestMemory(t *testing.T) {
	p := dented()
	before := slices.Clone(p)
	for range 2 {
		_, _, _ = corners.First(p)
		_, _, _ = corners.Points(p)
		h, _ := corners.Hull(p)
		l, _ := corners.Triangles(p)
		if !slices.Equal(p, before) || !slices.Equal(h, points(0, 0, 4, 0, 4, 3, 0, 3)) || l[0] == [3]int{} {
			t.Errorf("%v: Hull = %v, Triangles = %v", p, h, l)
		}
		clear(h)
		clear(l)
	}
	square := points(0, 0, 4, 0, 4, 4, 0, 4) // its own hull
	h, _ := corners.Hull(square)
	clear(h)
	if !slices.Equal(square, points(0, 0, 4, 0, 4, 4, 0, 4)) {
		t.Errorf("Hull shares memory: %v", square)
	}
	upside := points(0, 4, 4, 0, 0, 0) // not in the order in which Hull takes the points
	_, _ = corners.Hull(upside)
	if !slices.Equal(upside, points(0, 4, 4, 0, 0, 0)) {
		t.Errorf("Hull changed the points: %v", upside)
	}
}
