package sheets_test

import (
	"fmt"
	"math/big"
	"slices"
	"testing"

	"knurl/api"
	"knurl/corners"
	"knurl/sheets"
)

// inside returns whether a span is within another one.
func inside(a, b api.Span) bool { return a.Low >= b.Low && a.High <= b.High }

func turnedPoints(l []api.Point) []api.Point {
	var turned []api.Point
	for _, c := range l {
		turned = append(turned, point(c.Y, c.X))
	}
	return turned
}

// P4.10
func TestEachTruth(t *testing.T) {
	many := 0
	each(10, 1000, func(n *numbers, s api.Sheet) {
		q := n.polygon()
		across, _ := sheets.Factors(s, api.Across)
		along, _ := sheets.Factors(s, api.Along)
		area, _ := sheets.Area(s, q)
		square, _ := sheets.Length(s, q[0], q[1])
		alike, _ := sheets.Alike(s)
		deed, off := n.from(area.Low, area.High), n.from(0, area.High-area.Low)
		agrees, _ := sheets.Agrees(s, q, deed, off)
		strange, _ := sheets.Strange(s)
		for _, p := range tried(s).truths {
			many++
			if !slices.Contains(across, p.across) || !slices.Contains(along, p.along) {
				t.Errorf("Factors of %v = %v and %v; %v is a truth", s, across, along, p)
			}
			if !within(trueArea(q, p), area) || !within(trueSquare(q[0], q[1], p), square) {
				t.Errorf("Area of %v, %v = %v, Length = %v; %v is a truth", s, q, area, square, p)
			}
			if alike == api.Surely && p.across != p.along || alike == api.Never && p.across == p.along {
				t.Errorf("Alike of %v = %d; %v is a truth", s, alike, p)
			}
			if so := near(trueArea(q, p), deed, off); agrees == api.Surely && !so || agrees == api.Never && so {
				t.Errorf("Agrees of %v, %v, %d, %d = %d; %v is a truth", s, q, deed, off, agrees, p)
			}
			for _, i := range strange {
				if isRight(s.Controls[i], p) {
					t.Errorf("Strange of %v = %v; %v is a truth", s, strange, p)
				}
			}
		}
	})
	if many < 5000 {
		t.Errorf("only %d truths", many)
	}
}

// narrower returns a sheet of which more is known.
func narrower(n *numbers, s api.Sheet) api.Sheet {
	s.Controls = slices.Clone(s.Controls)
	switch n.from(0, 4) {
	case 0:
		s.Controls = append(s.Controls, n.control(pair{n.from(s.Across.Low, s.Across.High), n.from(s.Along.Low, s.Along.High)}))
	case 1:
		s.Across.Low = n.from(s.Across.Low, s.Across.High)
	case 2:
		s.Along.High = n.from(s.Along.Low, s.Along.High)
	case 3:
		s.Across.High, s.Along.Low = n.from(s.Across.Low, s.Across.High), n.from(s.Along.Low, s.Along.High)
	case 4:
		for i := range s.Controls {
			s.Controls[i].Off = n.from(0, s.Controls[i].Off)
		}
	}
	return s
}

// P4.11: there is a truth just if Fewest is at most Wrong.
func TestJustIfFewest(t *testing.T) {
	each(111, 3000, func(_ *numbers, s api.Sheet) {
		for s.Wrong = range api.MaxControls + 1 {
			fewest, e := sheets.Fewest(s)
			_, f := sheets.Many(s)
			if e != api.OK || (f == api.OK) != (fewest <= s.Wrong) {
				t.Errorf("Fewest of %v = %d, %d; Many: %d", s, fewest, e, f)
			}
		}
	})
}

// P4.11
func TestMoreKnown(t *testing.T) {
	both := 0
	each(11, 4000, func(n *numbers, s api.Sheet) {
		more, q := narrower(n, s), n.polygon()
		before, after := answersOf(s, q), answersOf(more, q)
		if after.many > before.many {
			t.Errorf("Many of %v = %d; of %v: %d", s, before.many, more, after.many)
		}
		if after.many == 0 {
			return
		}
		both++
		for _, f := range after.across {
			if !slices.Contains(before.across, f) {
				t.Errorf("%d came to the factors of %v with %v", f, s, more)
			}
		}
		for _, f := range after.along {
			if !slices.Contains(before.along, f) {
				t.Errorf("%d came to the factors of %v with %v", f, s, more)
			}
		}
		if !inside(after.area, before.area) || !inside(after.square, before.square) {
			t.Errorf("%v and %v, of %v %v and %v", before, after, s, q, more)
		}
		if before.alike != api.Perhaps && after.alike != before.alike || before.agrees != api.Perhaps && after.agrees != before.agrees {
			t.Errorf("%v and %v, of %v %v and %v", before, after, s, q, more)
		}
	})
	if both < 1000 {
		t.Errorf("only %d sheets", both)
	}
}

// answers is what the functions say of a sheet and a polygon.
type answers struct {
	many, fewest, alike, agrees int
	across, along, strange      []int
	area, square                api.Span
}

func answersOf(s api.Sheet, q []api.Point) answers {
	var a answers
	a.many, _ = sheets.Many(s)
	a.fewest, _ = sheets.Fewest(s)
	a.alike, _ = sheets.Alike(s)
	twice, _ := corners.Twice(q)
	a.agrees, _ = sheets.Agrees(s, q, max(twice, -twice), 3)
	a.across, _ = sheets.Factors(s, api.Across)
	a.along, _ = sheets.Factors(s, api.Along)
	a.strange, _ = sheets.Strange(s)
	a.area, _ = sheets.Area(s, q)
	a.square, _ = sheets.Length(s, q[0], q[1])
	return a
}

// P4.12
func TestTurned(t *testing.T) {
	each(12, 1500, func(n *numbers, s api.Sheet) {
		q := n.polygon()
		turned := api.Sheet{Across: s.Along, Along: s.Across, Wrong: s.Wrong}
		for _, c := range s.Controls {
			c.Way = api.Across + api.Along - c.Way
			turned.Controls = append(turned.Controls, c)
		}
		before, after := answersOf(s, q), answersOf(turned, turnedPoints(q))
		after.across, after.along = after.along, after.across
		if a, b := fmt.Sprint(before), fmt.Sprint(after); a != b {
			t.Errorf("%s of %v, %v; %s of %v", a, s, q, b, turned)
		}
	})
}

// P4.13
func TestNotShrunk(t *testing.T) {
	n := numbers{state: 13}
	known := widest()
	known.Controls = []api.Control{control(api.Across, 1000, 1000, 0), control(api.Along, 9000, 9000, 0), control(api.Across, 1000, 900, 0)}
	known.Wrong = 1
	known.Controls = slices.Concat(known.Controls, known.Controls[:2])
	for i := range 300 {
		s := [...]api.Sheet{flat(1000, 1000), flat(1000, 1000), known}[i%3]
		q := n.polygon()
		twice, _ := corners.Twice(q)
		twice = max(twice, -twice)
		b, e := sheets.Area(s, q)
		sameSpan(t, fmt.Sprint("Area of ", q), b, e, span(twice, twice), api.OK)
		x, y := q[1].X-q[0].X, q[1].Y-q[0].Y
		b, e = sheets.Length(s, q[0], q[1])
		sameSpan(t, fmt.Sprint("Length of ", q), b, e, span(x*x+y*y, x*x+y*y), api.OK)
	}
}

// P4.14
func TestPieces(t *testing.T) {
	each(14, 1500, func(n *numbers, s api.Sheet) {
		q := n.polygon()
		b, e := sheets.Area(s, q)
		if e != api.OK {
			return
		}
		l, _ := corners.Triangles(q)
		low, high := 0, 0
		for _, c := range l {
			piece, e := sheets.Area(s, []api.Point{q[c[0]], q[c[1]], q[c[2]]})
			if e != api.OK && e != api.ErrPolygon {
				t.Errorf("Area of a triangle: %d", e)
			}
			low += piece.Low
			high += piece.High
		}
		if b.Low < low || b.High > high {
			t.Errorf("Area of %v, %v = %v; the triangles have %d to %d", s, q, b, low, high)
		}
	})
}

// P4.15
func TestOneTruth(t *testing.T) {
	n := numbers{state: 15}
	exact, found := 0, 0
	for range 2000 {
		s := n.sheet()
		x := tried(s)
		if len(x.truths) != 1 {
			s = [...]api.Sheet{flat(1000, 1000), flat(n.from(900, 1100), n.from(900, 1100))}[n.from(0, 1)]
			x = tried(s)
		} else {
			found++
		}
		q, p := n.polygon(), x.truths[0]
		twice, _ := corners.Twice(q)
		all := max(twice, -twice) * 1000000
		b, e := sheets.Area(s, q)
		if e != api.OK || b.High > b.Low+1 || b.Low > b.High || b.Low*p.across*p.along > all || b.High*p.across*p.along < all {
			t.Errorf("Area of %v, %v = %v, %d", s, q, b, e)
		}
		if b.Low == b.High {
			exact++
		}
	}
	if exact < 10 || exact > 1990 || found < 30 {
		t.Errorf("%d areas are whole numbers; %d sheets have one truth by their controls", exact, found)
	}
}

// P0.11
func TestHullOnTheSheet(t *testing.T) {
	count := map[bool]int{}
	each(11, 2000, func(n *numbers, s api.Sheet) {
		q := n.polygon()
		b, e := sheets.Area(s, q)
		hull, hullE := corners.Hull(q)
		if hullE != api.OK {
			t.Fatalf("Hull of %v: %d", q, hullE)
		}
		more, moreE := sheets.Area(s, hull)
		if moreE != e || more.Low < b.Low || more.High < b.High {
			t.Errorf("Area of %v = %v, %d; of its hull %v, %d", q, b, e, more, moreE)
		}
		dented := false
		for _, c := range q {
			where, _ := corners.Where(hull, c)
			dented = dented || where == api.Inside
		}
		count[dented]++
		if !dented && more != b {
			t.Errorf("Area of %v = %v; of its hull %v", q, b, more)
		}
	})
	if count[true] < 200 || count[false] < 200 {
		t.Errorf("dented: %v", count)
	}
}

// A sheet of which nothing is known: what was measured is truly the more, the less the factors are, so that the least and the greatest ones tell the bounds.
func TestWidest(t *testing.T) {
	n := numbers{state: 20}
	for range 20 {
		s, q := widest(), n.polygon()
		x := known{truths: []pair{{900, 900}, {1100, 1100}}}
		b, e := sheets.Area(s, q)
		sameSpan(t, fmt.Sprint("Area of ", q), b, e, x.bounds(func(p pair) *big.Rat { return trueArea(q, p) }), api.OK)
		b, e = sheets.Length(s, q[0], q[1])
		sameSpan(t, fmt.Sprint("Length of ", q), b, e, x.bounds(func(p pair) *big.Rat { return trueSquare(q[0], q[1], p) }), api.OK)
		m, e := sheets.Many(s)
		sameInt(t, "Many", m, e, 201*201, api.OK)
	}
}
