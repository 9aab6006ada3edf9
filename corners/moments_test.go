package corners_test

import (
	"math/big"
	"testing"

	"knurl/api"
	"knurl/corners"
)

// first and second are the results of First and Second as lists.
func first(p []api.Point) ([]int, api.Errno) {
	x, y, e := corners.First(p)
	return []int{x, y}, e
}

func second(p []api.Point) ([]int, api.Errno) {
	xx, xy, yy, e := corners.Second(p)
	return []int{xx, xy, yy}, e
}

// P2.4
func TestFirst(t *testing.T) {
	for _, x := range []struct {
		p    []api.Point
		want []int
	}{
		{dented(), []int{96, 52}}, {triangle(), []int{-30, -36}}, {whole(), []int{0, 0}}, {points(0, 0, 200, 0, 200, 200, 0, 200), []int{24000000, 24000000}}, {points(0, 0, 1, 0, 0, 1), []int{1, 1}}, {points(0, 0, -1, 0, 0, -1), []int{-1, -1}},
	} {
		l, e := first(x.p)
		sameInts(t, "First", l, e, x.want, api.OK)
	}
	polygons(4, 5000, func(_ *numbers, p []api.Point) {
		l, e := first(p)
		sameInts(t, "First", []int{4 * l[0], 4 * l[1]}, e, []int{integral(p, 1, 0), integral(p, 0, 1)}, api.OK)
	})
}

// P2.5
func TestSecond(t *testing.T) {
	for _, x := range []struct {
		p    []api.Point
		want []int
	}{
		{dented(), []int{544, 416, 160}}, {triangle(), []int{-108, -228, -162}}, {points(0, 0, 1, 0, 0, 1), []int{1, 1, 1}}, {points(0, 0, 1, 0, 1, 1, 0, 1), []int{4, 6, 4}}, {points(0, 0, -1, 0, -1, 1, 0, 1), []int{-4, 6, -4}},
		{whole(), []int{25600000000, 0, 25600000000}}, {points(0, 0, 200, 0, 200, 200, 0, 200), []int{6400000000, 9600000000, 6400000000}},
	} {
		l, e := second(x.p)
		sameInts(t, "Second", l, e, x.want, api.OK)
	}
	polygons(5, 5000, func(_ *numbers, p []api.Point) {
		l, e := second(p)
		sameInts(t, "Second", []int{2 * l[0], l[1], 2 * l[2]}, e, []int{integral(p, 2, 0), integral(p, 1, 1), integral(p, 0, 2)}, api.OK)
	})
}

// lowest is a number as a fraction in lowest terms.
func lowest(num, den int) api.Ratio {
	r := big.NewRat(int64(num), int64(den))
	return api.Ratio{Num: int(r.Num().Int64()), Den: int(r.Denom().Int64())}
}

// P2.6
func TestCentre(t *testing.T) {
	for i, x := range []struct {
		p    []api.Point
		x, y api.Ratio
	}{
		{dented(), api.Ratio{Num: 2, Den: 1}, api.Ratio{Num: 13, Den: 12}}, {triangle(), api.Ratio{Num: 5, Den: 3}, api.Ratio{Num: 2, Den: 1}}, {whole(), api.Ratio{Num: 0, Den: 1}, api.Ratio{Num: 0, Den: 1}},
		{points(0, 0, -1, 0, 0, -1), api.Ratio{Num: -1, Den: 3}, api.Ratio{Num: -1, Den: 3}}, {points(0, 0, 0, -1, -1, 0), api.Ratio{Num: -1, Den: 3}, api.Ratio{Num: -1, Den: 3}},
		{points(-200, -200, 200, -200, 199, 200, -200, 199), api.Ratio{Num: -159401, Den: 957603}, api.Ratio{Num: -319001, Den: 957603}},
		{points(200, -200, 200, 200, -101, 199, -200, -103), api.Ratio{Num: 3261271, Den: 107487}, api.Ratio{Num: 495128, Den: 35829}}, // greater than a Num of layer 1
	} {
		a, b, e := corners.Centre(x.p)
		if a != x.x || b != x.y || e != api.OK {
			t.Errorf("%d: Centre = %v, %v, %d", i, a, b, e)
		}
	}
	polygons(6, 5000, func(_ *numbers, p []api.Point) {
		x, y, e := corners.Centre(p)
		area := integral(p, 0, 0)
		if x != lowest(integral(p, 1, 0), area) || y != lowest(integral(p, 0, 1), area) || e != api.OK {
			t.Errorf("Centre of %v = %v, %v, %d", p, x, y, e)
		}
	})
}

// P2.10
func TestAnyCornerFirst(t *testing.T) {
	polygons(10, 500, func(n *numbers, p []api.Point) {
		at := p[n.from(0, len(p)-1)]
		at = n.pick(at, api.Point{X: max(at.X-1, -200), Y: at.Y}, n.point(9))
		twice, _ := corners.Twice(p)
		one, _ := first(p)
		two, _ := second(p)
		x, y, _ := corners.Centre(p)
		inside, sides, _ := corners.Points(p)
		where, _ := corners.Where(p, at)
		back := backwards(p)
		for range p {
			p = append(p[1:], p[0])
			back = append(back[1:], back[0])
			for _, q := range [][]api.Point{p, back} {
				turned := map[bool]int{true: 1, false: -1}[&q[0] == &p[0]]
				l, e := corners.Twice(q)
				sameInts(t, "Twice", []int{l * turned}, e, []int{twice}, api.OK)
				l1, e := first(q)
				sameInts(t, "First", []int{l1[0] * turned, l1[1] * turned}, e, one, api.OK)
				l2, e := second(q)
				sameInts(t, "Second", []int{l2[0] * turned, l2[1] * turned, l2[2] * turned}, e, two, api.OK)
				qx, qy, _ := corners.Centre(q)
				i, s, _ := corners.Points(q)
				w, _ := corners.Where(q, at)
				if qx != x || qy != y || i != inside || s != sides || w != where {
					t.Errorf("%v: Centre %v %v, Points %d %d, Where of %v %d; before: %v %v, %d %d, %d", q, qx, qy, i, s, at, w, x, y, inside, sides, where)
				}
			}
		}
	})
}

// pick returns one of some points.
func (n *numbers) pick(l ...api.Point) api.Point { return l[n.from(0, len(l)-1)] }

// P2.11
func TestMoved(t *testing.T) {
	polygons(11, 3000, func(n *numbers, p []api.Point) {
		room := api.MaxCoord - lengths(p)
		a, b := n.from(-room, room), n.from(-room, room)
		moved := each(p, func(c api.Point) api.Point { return api.Point{X: c.X + a, Y: c.Y + b} })
		twice, _ := corners.Twice(p)
		one, _ := first(p)
		two, _ := second(p)
		l, e := corners.Twice(moved)
		sameInts(t, "Twice", []int{l}, e, []int{twice}, api.OK)
		l1, e := first(moved)
		sameInts(t, "First", l1, e, []int{one[0] + 3*a*twice, one[1] + 3*b*twice}, api.OK)
		l2, e := second(moved)
		sameInts(t, "Second", l2, e, []int{two[0] + 4*a*one[0] + 6*a*a*twice, two[1] + 4*b*one[0] + 4*a*one[1] + 12*a*b*twice, two[2] + 4*b*one[1] + 6*b*b*twice}, api.OK)
	})
}

// P2.15
func TestLarger(t *testing.T) {
	n := numbers{state: 15}
	for range 3000 {
		most := n.from(2, 50)
		p := n.polygon(most)
		k := n.from(2, api.MaxCoord/most)
		larger := each(p, func(c api.Point) api.Point { return api.Point{X: k * c.X, Y: k * c.Y} })
		twice, _ := corners.Twice(p)
		one, _ := first(p)
		two, _ := second(p)
		x, y, _ := corners.Centre(p)
		l, e := corners.Twice(larger)
		sameInts(t, "Twice", []int{l}, e, []int{k * k * twice}, api.OK)
		l1, e := first(larger)
		sameInts(t, "First", l1, e, []int{k * k * k * one[0], k * k * k * one[1]}, api.OK)
		l2, e := second(larger)
		k4 := k * k * k * k
		sameInts(t, "Second", l2, e, []int{k4 * two[0], k4 * two[1], k4 * two[2]}, api.OK)
		if kx, ky, e := corners.Centre(larger); kx != lowest(k*x.Num, x.Den) || ky != lowest(k*y.Num, y.Den) || e != api.OK {
			t.Errorf("Centre of %v = %v, %v, %d", larger, kx, ky, e)
		}
	}
}

// P2.16
func TestTheCentre(t *testing.T) {
	polygons(16, 3000, func(_ *numbers, p []api.Point) {
		low, high, sum := p[0], p[0], api.Point{}
		for _, c := range p {
			low = api.Point{X: min(low.X, c.X), Y: min(low.Y, c.Y)}
			high = api.Point{X: max(high.X, c.X), Y: max(high.Y, c.Y)}
			sum = api.Point{X: sum.X + c.X, Y: sum.Y + c.Y}
		}
		x, y, _ := corners.Centre(p)
		if x.Num < low.X*x.Den || x.Num > high.X*x.Den || y.Num < low.Y*y.Den || y.Num > high.Y*y.Den {
			t.Errorf("Centre of %v = %v, %v", p, x, y)
		}
		if len(p) == 3 {
			twice, _ := corners.Twice(p)
			l, e := first(p)
			sameInts(t, "First", l, e, []int{sum.X * twice, sum.Y * twice}, api.OK)
		}
	})
}
