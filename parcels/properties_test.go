package parcels_test

import (
	"fmt"
	"slices"
	"testing"

	"knurl/api"
	"knurl/corners"
	"knurl/parcels"
	"knurl/sheets"
)

// answers is what the functions say of a plat, but for examples.
type answers struct {
	least, worst, few int
	ranges            []api.Span
	fixed             []int
	e, chain          api.Errno
}

func answersOf(p api.Plat) answers {
	var a answers
	a.least, a.e = parcels.Least(p)
	a.worst, _ = parcels.Worst(p)
	a.few, _ = parcels.Few(p)
	a.fixed, _ = parcels.Fixed(p)
	for i := range p.Parcels {
		s, _ := parcels.Range(p, i)
		a.ranges = append(a.ranges, s)
	}
	_, _, a.chain = parcels.Chain(p)
	return a
}

// subset returns the numbers from 0 to less than a limit whose bits are 1.
func subset(bits, limit int) []int {
	var l []int
	for i := range limit {
		if bits>>i&1 == 1 {
			l = append(l, i)
		}
	}
	return l
}

// anyProves returns whether any chain proves that there is no adjustment.
func anyProves(p api.Plat) bool {
	for rows := range 1 << len(p.Rows) {
		for cols := range 1 << len(p.Cols) {
			if proves(p, subset(rows, len(p.Rows)), subset(cols, len(p.Cols))) {
				return true
			}
		}
	}
	return false
}

// P6.11
func TestProved(t *testing.T) {
	found := map[api.Errno]int{}
	large(11, 2000, func(_ *numbers, p api.Plat) {
		rows, cols, e := parcels.Chain(p)
		areas, f := parcels.Adjust(p)
		found[f]++
		if f == api.ErrNone {
			if e != api.OK || !proves(p, rows, cols) {
				t.Errorf("Chain of %v = %v, %v, %d", p, rows, cols, e)
			}
			return
		}
		ok, g := parcels.Fills(p, areas)
		if e != api.ErrNone || f != api.OK || g != api.OK || !ok || anyProves(p) {
			t.Errorf("Chain of %v = %v, %v, %d; Adjust = %v, %d", p, rows, cols, e, areas, f)
		}
	})
	if found[api.OK] < 500 || found[api.ErrNone] < 200 {
		t.Errorf("found %v", found)
	}
}

// P6.12
func TestSmallestChanges(t *testing.T) {
	many := 0
	small(12, 1000, func(_ *numbers, p api.Plat) {
		a := answersOf(p)
		for _, areas := range adjustments(p) {
			many++
			if total(p, areas) < a.least || most(p, areas) < a.worst || count(p, areas) < a.few {
				t.Errorf("%+v of %v; %v is an adjustment", a, p, areas)
			}
			for i, area := range areas {
				if !isIn(area, a.ranges[i]) || slices.Contains(a.fixed, i) && (area != a.ranges[i].Low || area != a.ranges[i].High) {
					t.Errorf("%+v of %v; %v is an adjustment", a, p, areas)
				}
			}
		}
	})
	if many < 2000 {
		t.Errorf("only %d adjustments", many)
	}
}

// P6.13
func TestAllThree(t *testing.T) {
	nothing := map[bool]int{}
	large(13, 2000, func(n *numbers, p api.Plat) {
		if n.from(0, 4) == 0 {
			p = filled(p)
		}
		a := answersOf(p)
		ok, e := parcels.Fills(p, measured(p))
		if e != api.OK || ok && a.e != api.OK {
			t.Errorf("Fills of %v = %v, %d; Least: %d", p, ok, e, a.e)
		}
		if a.e != api.OK {
			return
		}
		nothing[ok]++
		if a.worst > a.least || a.few > a.least || a.least > a.worst*len(p.Parcels) || (a.least == 0) != ok || (a.worst == 0) != ok || (a.few == 0) != ok {
			t.Errorf("%+v of %v; Fills = %v", a, p, ok)
		}
	})
	if nothing[true] < 300 || nothing[false] < 500 {
		t.Errorf("nothing to change: %v", nothing)
	}
}

// filled returns a plat whose measured areas fill it.
func filled(p api.Plat) api.Plat {
	p = copied(p)
	clear(p.Rows)
	clear(p.Cols)
	for _, x := range p.Parcels {
		if x.Row >= 0 {
			p.Rows[x.Row] += x.Area
		}
		if x.Col >= 0 {
			p.Cols[x.Col] += x.Area
		}
	}
	return p
}

// P6.14
func TestMoreOff(t *testing.T) {
	both, new, less := 0, 0, 0
	large(14, 2000, func(n *numbers, p api.Plat) {
		more := copied(p)
		for i, x := range more.Parcels {
			if n.from(0, 1) == 0 {
				more.Parcels[i].Off = n.from(x.Off, min(api.MaxOff, x.Off+n.from(0, 20)))
			}
		}
		before, after := answersOf(p), answersOf(more)
		if before.e != api.OK {
			if after.e == api.OK {
				new++
			}
			return
		}
		both++
		if after.e != api.OK || after.least > before.least || after.worst > before.worst || after.few > before.few {
			t.Errorf("%+v of %v; %+v of %v", before, p, after, more)
		}
		if after.least < before.least || after.worst < before.worst || after.few < before.few {
			less++
		}
		for i, s := range before.ranges {
			if after.ranges[i].Low > s.Low || after.ranges[i].High < s.High {
				t.Errorf("%+v of %v; %+v of %v", before, p, after, more)
			}
		}
	})
	if both < 500 || new < 30 || less < 200 {
		t.Errorf("%d have an adjustment, %d come to have one, %d need less", both, new, less)
	}
}

// P6.14: an adjustment stays one.
func TestMoreAdjustments(t *testing.T) {
	small(114, 300, func(n *numbers, p api.Plat) {
		more := copied(p)
		for i := range more.Parcels {
			more.Parcels[i].Off += n.from(0, 1)
		}
		for _, areas := range adjustments(p) {
			if ok, e := parcels.Fills(more, areas); !ok || e != api.OK {
				t.Errorf("Fills of %v, %v = %v, %d", more, areas, ok, e)
			}
		}
	})
}

// P6.15
func TestAnyOrder(t *testing.T) {
	turned := 0
	large(15, 1500, func(n *numbers, p api.Plat) {
		order := n.order(len(p.Parcels))
		turn := n.from(0, 1) == 1
		other := api.Plat{Rows: slices.Clone(p.Rows), Cols: slices.Clone(p.Cols)}
		for _, i := range order {
			other.Parcels = append(other.Parcels, p.Parcels[i])
		}
		if turn {
			turned++
			other.Rows, other.Cols = other.Cols, other.Rows
			for i, x := range other.Parcels {
				other.Parcels[i].Row, other.Parcels[i].Col = x.Col, x.Row
			}
		}
		before, after := answersOf(p), answersOf(other)
		for i, was := range order {
			if before.ranges[was] != after.ranges[i] || slices.Contains(before.fixed, was) != slices.Contains(after.fixed, i) {
				t.Errorf("%+v of %v; %+v of %v", before, p, after, other)
			}
		}
		if before.least != after.least || before.worst != after.worst || before.few != after.few || before.e != after.e || before.chain != after.chain {
			t.Errorf("%+v of %v; %+v of %v", before, p, after, other)
		}
		areas, e := parcels.Even(p)
		if e != api.OK {
			return
		}
		var moved []int
		for _, i := range order {
			moved = append(moved, areas[i])
		}
		if ok, e := parcels.Fills(other, moved); !ok || e != api.OK {
			t.Errorf("Fills of %v, %v = %v, %d", other, moved, ok, e)
		}
	})
	if turned < 500 {
		t.Errorf("%d are turned", turned)
	}
}

// P6.16
func TestSettled(t *testing.T) {
	checked, equal := 0, 0
	large(16, 1500, func(_ *numbers, p api.Plat) {
		least, e := parcels.Least(p)
		if e != api.OK {
			return
		}
		for i, x := range p.Parcels {
			s, _ := parcels.Range(p, i)
			for _, end := range []int{s.Low, s.High} {
				if end > api.MaxParcel {
					continue // no parcel of a valid plat has this area
				}
				settled := copied(p)
				settled.Parcels[i].Area, settled.Parcels[i].Off = end, 0
				n, e := parcels.Least(settled)
				if e != api.OK || n+distance(end, x.Area) < least {
					t.Errorf("Least of %v = %d, %d; of %v: %d", settled, n, e, p, least)
				}
				checked++
				if n+distance(end, x.Area) == least {
					equal++
				}
			}
		}
	})
	if checked < 3000 || equal < 500 || equal > checked-500 {
		t.Errorf("%d are settled, of which %d cost nothing", checked, equal)
	}
}

// polygon returns a valid polygon, in any sense. It grows from three points, corner by corner.
func (n *numbers) polygon(side int) []api.Point {
	at := func() api.Point { return api.Point{X: n.from(0, side), Y: n.from(0, side)} }
	for {
		p := []api.Point{at(), at(), at()}
		if corners.Check(p) != api.OK {
			continue
		}
		want := n.from(api.MinCorners, api.MaxCorners)
		for range 30 {
			if more := slices.Insert(slices.Clone(p), n.from(0, len(p)), at()); len(p) < want && corners.Check(more) == api.OK {
				p = more
			}
		}
		return p
	}
}

// sheet returns one of which there is a truth.
func (n *numbers) sheet() api.Sheet {
	across, along := n.from(900, 1090), n.from(900, 1090)
	return api.Sheet{Across: span(across, across+n.from(0, 10)), Along: span(along, along+n.from(0, 10))}
}

// pieces returns the triangles of a polygon as parcels of one row, each with the bounds of its area on a sheet, and whether they have just these; where bounds have no middle, the parcel can be greater by 1. It returns nil where a plat has not so great numbers.
func pieces(t *testing.T, s api.Sheet, q []api.Point) (l []api.Parcel, exact bool) {
	t.Helper()
	exact = true
	triangles, e := corners.Triangles(q)
	if e != api.OK {
		t.Fatalf("Triangles of %v: %d", q, e)
	}
	for _, c := range triangles {
		b, e := sheets.Area(s, []api.Point{q[c[0]], q[c[1]], q[c[2]]})
		if e != api.OK {
			t.Fatalf("Area of a triangle of %v: %d", q, e)
		}
		off := (b.High - b.Low + 1) / 2
		exact = exact && b.Low+2*off == b.High
		if b.Low+off > api.MaxParcel || off > api.MaxOff {
			return nil, false
		}
		l = append(l, parcel(0, -1, b.Low+off, off))
	}
	return l, exact
}

// P0.12
func TestPiecesThatFill(t *testing.T) {
	n := numbers{state: 12}
	found, sizes := map[bool]int{}, map[int]int{}
	for range 1500 {
		s, q := n.sheet(), n.polygon([...]int{3, 8, 30}[n.from(0, 2)])
		bounds, e := sheets.Area(s, q)
		if e != api.OK {
			t.Fatalf("Area of %v, %v: %d", s, q, e)
		}
		l, exact := pieces(t, s, q)
		if l == nil {
			continue
		}
		found[exact]++
		sizes[len(l)]++
		for area := bounds.Low; area <= bounds.High; area++ {
			p := api.Plat{Parcels: l, Rows: []int{area}}
			areas, e := parcels.Adjust(p)
			if e != api.OK || !fills(p, areas) {
				t.Errorf("Adjust of %v = %v, %d; the area of %v is %v", p, areas, e, q, bounds)
			}
			if _, _, e := parcels.Chain(p); e != api.ErrNone {
				t.Error(fmt.Sprint("Chain of ", p), e)
			}
		}
	}
	if found[true] < 100 || found[false] < 500 || sizes[8] < 50 {
		t.Errorf("exact: %v, sizes %v", found, sizes)
	}
}
