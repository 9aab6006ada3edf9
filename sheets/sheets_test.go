package sheets_test

import (
	"fmt"
	"math/big"
	"slices"
	"testing"

	"knurl/api"
	"knurl/sheets"
)

// P4.1
func TestCheck(t *testing.T) {
	for name, s := range badSheets() {
		if e := sheets.Check(s); e != api.ErrSheet {
			t.Errorf("Check of the sheet %s: %d", name, e)
		}
	}
	most := widest()
	most.Wrong = api.MaxControls
	most.Controls = slices.Repeat([]api.Control{control(api.Along, api.MaxDistance, api.MaxDistance, api.MaxDistance)}, api.MaxControls)
	least := flat(900, 1100)
	least.Controls = []api.Control{control(api.Across, 1, 0, 0)}
	for i, s := range []api.Sheet{sheetS(), sheetT(), widest(), most, least, flat(1100, 900)} {
		if e := sheets.Check(s); e != api.OK {
			t.Errorf("%d: Check: %d", i, e)
		}
	}
}

// The chapter's examples.
func TestExamples(t *testing.T) {
	n, e := sheets.Fewest(sheetS())
	sameInt(t, "Fewest of S", n, e, 0, api.OK)
	n, e = sheets.Many(sheetS())
	sameInt(t, "Many of S", n, e, 15, api.OK)
	l, e := sheets.Factors(sheetS(), api.Across)
	sameList(t, "Factors of S across", l, e, []int{985, 986, 987}, api.OK)
	l, e = sheets.Factors(sheetS(), api.Along)
	sameList(t, "Factors of S along", l, e, []int{998, 999, 1000, 1001, 1002}, api.OK)
	n, e = sheets.Alike(sheetS())
	sameInt(t, "Alike of S", n, e, api.Never, api.OK)
	l, e = sheets.Strange(sheetS())
	sameList(t, "Strange of S", l, e, nil, api.OK)
	b, e := sheets.Area(sheetS(), fieldR())
	sameSpan(t, "Area", b, e, span(404, 407), api.OK)
	b, e = sheets.Length(sheetS(), point(0, 0), point(20, 0))
	sameSpan(t, "Length across", b, e, span(410, 413), api.OK)
	b, e = sheets.Length(sheetS(), point(0, 0), point(0, 10))
	sameSpan(t, "Length along", b, e, span(99, 101), api.OK)
	for _, x := range []struct{ deed, off, want int }{{405, 2, api.Surely}, {405, 1, api.Perhaps}, {410, 2, api.Never}} {
		n, e = sheets.Agrees(sheetS(), fieldR(), x.deed, x.off)
		sameInt(t, "Agrees", n, e, x.want, api.OK)
	}
	s := sheetT()
	n, e = sheets.Fewest(s)
	sameInt(t, "Fewest of T", n, e, 1, api.OK)
	n, e = sheets.Many(s)
	sameInt(t, "Many of T", n, e, 0, api.ErrNone)
	s.Wrong = 1
	n, e = sheets.Many(s)
	sameInt(t, "Many of T with Wrong 1", n, e, 15, api.OK)
	n, e = sheets.Fewest(s)
	sameInt(t, "Fewest of T with Wrong 1", n, e, 1, api.OK)
	l, e = sheets.Strange(s)
	sameList(t, "Strange of T with Wrong 1", l, e, []int{3}, api.OK)
}

// The first and the last factor for which a control is right: what differs by just 1000 times Off still is.
func TestRight(t *testing.T) {
	for i, x := range []struct {
		c         api.Control
		low, high int
	}{
		{control(api.Across, 1000, 985, 2), 983, 987},
		{control(api.Across, 1000, 985, 0), 985, 985},
		{control(api.Across, 500, 500, 1), 998, 1002},
		{control(api.Across, 499, 500, 1), 1000, 1004}, // 499 to 501 for 999.999 to 1004.008
		{control(api.Across, 501, 500, 1), 997, 1000},  // 996.007 to 1000.000
		{control(api.Across, 1, 1, 0), 1000, 1000},
		{control(api.Across, 1, 0, 1), 900, 1000},
		{control(api.Across, 1, 2, 1), 1000, 1100},
		{control(api.Across, 9999, 9998, 0), 0, -1}, // one needs 999.9
		{control(api.Across, 9999, 9999, 0), 1000, 1000},
		{control(api.Across, 9999, 0, 9999), 900, 1000},
		{control(api.Across, 1, 0, 0), 0, -1},
		{control(api.Across, 10, 9, 0), 900, 900},
		{control(api.Across, 10, 11, 0), 1100, 1100},
		{control(api.Across, 9000, 9899, 0), 0, -1},
		{control(api.Across, 9000, 9900, 0), 1100, 1100},
	} {
		for _, way := range []int{api.Across, api.Along} {
			s := widest()
			x.c.Way = way
			s.Controls = []api.Control{x.c}
			var want []int
			for f := x.low; f <= x.high; f++ {
				want = append(want, f)
			}
			wantE, many := api.OK, len(want)*201
			if len(want) == 0 {
				wantE = api.ErrNone
			}
			l, e := sheets.Factors(s, way)
			sameList(t, fmt.Sprint(i, ": Factors"), l, e, want, wantE)
			n, e := sheets.Many(s)
			sameInt(t, fmt.Sprint(i, ": Many"), n, e, many, wantE)
		}
	}
}

// P4.2, P4.3, P4.4, P4.5, P4.6: as everything tried says.
func TestTruths(t *testing.T) {
	none, alike := 0, map[int]int{}
	each(2, 4000, func(_ *numbers, s api.Sheet) {
		x := tried(s)
		call := fmt.Sprint(" of ", s)
		if x.error() != api.OK {
			none++
		}
		n, e := sheets.Fewest(s)
		sameInt(t, "Fewest"+call, n, e, x.fewest, api.OK)
		n, e = sheets.Many(s)
		sameInt(t, "Many"+call, n, e, len(x.truths), x.error())
		for _, way := range []int{api.Across, api.Along} {
			l, e := sheets.Factors(s, way)
			sameList(t, "Factors"+call, l, e, x.factors(way), x.error())
		}
		n, e = sheets.Alike(s)
		sameInt(t, "Alike"+call, n, e, x.said(func(p pair) bool { return p.across == p.along }), x.error())
		alike[n]++
		l, e := sheets.Strange(s)
		sameList(t, "Strange"+call, l, e, x.strange, x.error())
	})
	if none < 100 || none > 3000 || alike[api.Surely] < 20 || alike[api.Never] < 20 || alike[api.Perhaps] < 20 {
		t.Errorf("%d without a truth; Alike: %v", none, alike)
	}
}

// P4.7, P4.8, P4.9: as exact fractions of each truth say.
func TestMeasured(t *testing.T) {
	agrees := map[int]int{}
	each(7, 1500, func(n *numbers, s api.Sheet) {
		x, q := tried(s), n.polygon()
		call := fmt.Sprint(" of ", s, q)
		area := x.bounds(func(p pair) *big.Rat { return trueArea(q, p) })
		b, e := sheets.Area(s, q)
		sameSpan(t, "Area"+call, b, e, area, x.error())
		a, c := q[0], q[1]
		b, e = sheets.Length(s, a, c)
		sameSpan(t, "Length"+call, b, e, x.bounds(func(p pair) *big.Rat { return trueSquare(a, c, p) }), x.error())
		for range 3 {
			deed := max(0, n.from(area.Low, area.High)+n.from(-1, 1))
			off := max(0, n.from(-1, area.High-area.Low+1))
			m, e := sheets.Agrees(s, q, deed, off)
			sameInt(t, fmt.Sprint("Agrees", call, deed, off), m, e, x.said(func(p pair) bool { return near(trueArea(q, p), deed, off) }), x.error())
			agrees[m]++
		}
	})
	if agrees[api.Surely] < 50 || agrees[api.Never] < 50 || agrees[api.Perhaps] < 50 {
		t.Errorf("Agrees: %v", agrees)
	}
}

// P4.7, P4.8: which factor counts for which direction, with the greatest numbers too.
func TestBounds(t *testing.T) {
	for i, x := range []struct {
		s                   api.Sheet
		area, across, along api.Span // of R, of 20 to the right, of 10 upwards
	}{
		{flat(1000, 1000), span(400, 400), span(400, 400), span(100, 100)},
		{flat(1000, 900), span(444, 445), span(400, 400), span(123, 124)},
		{flat(900, 1000), span(444, 445), span(493, 494), span(100, 100)},
		{flat(1000, 1100), span(363, 364), span(400, 400), span(82, 83)},
		{widest(), span(330, 494), span(330, 494), span(82, 124)},
		{api.Sheet{Across: span(900, 1000), Along: span(1000, 1000)}, span(400, 445), span(400, 494), span(100, 100)},
	} {
		b, e := sheets.Area(x.s, fieldR())
		sameSpan(t, fmt.Sprint(i, ": Area"), b, e, x.area, api.OK)
		b, e = sheets.Length(x.s, point(-7, 5), point(13, 5))
		sameSpan(t, fmt.Sprint(i, ": Length across"), b, e, x.across, api.OK)
		b, e = sheets.Length(x.s, point(3, -8), point(3, 2))
		sameSpan(t, fmt.Sprint(i, ": Length along"), b, e, x.along, api.OK)
	}
	// Truly 1000000 / 999999.
	b, e := sheets.Area(flat(999, 1001), points(0, 0, 1, 0, 0, 1))
	sameSpan(t, "Area of what is a little more than 1", b, e, span(1, 2), api.OK)
	b, e = sheets.Area(widest(), whole())
	sameSpan(t, "Area of the greatest polygon", b, e, span(264462, 395062), api.OK)
	b, e = sheets.Length(widest(), point(-200, -200), point(200, 200))
	sameSpan(t, "the greatest Length", b, e, span(264462, 395062), api.OK)
	b, e = sheets.Length(widest(), point(200, -200), point(-200, 200))
	sameSpan(t, "the greatest Length, to the left", b, e, span(264462, 395062), api.OK)
	b, e = sheets.Length(widest(), point(200, 200), point(200, 200))
	sameSpan(t, "Length of nothing", b, e, span(0, 0), api.OK)
}

// P4.7, P4.9: the sense of a polygon, and its first corner, do not matter.
func TestSense(t *testing.T) {
	backwards := points(0, 10, 20, 10, 20, 0, 0, 0)
	b, e := sheets.Area(sheetS(), backwards)
	sameSpan(t, "Area", b, e, span(404, 407), api.OK)
	n, e := sheets.Agrees(sheetS(), backwards, 405, 2)
	sameInt(t, "Agrees", n, e, api.Surely, api.OK)
}

// P4.9: a difference of just off is agreed with; the greatest deeds and offs can be asked for.
func TestAgrees(t *testing.T) {
	for _, x := range []struct{ deed, off, want int }{
		{400, 0, api.Surely}, {399, 0, api.Never}, {401, 0, api.Never}, {398, 2, api.Surely}, {402, 2, api.Surely}, {397, 2, api.Never}, {403, 2, api.Never},
		{0, 400, api.Surely}, {0, 399, api.Never}, {0, api.MaxDeed, api.Surely}, {api.MaxDeed, api.MaxDeed, api.Surely}, {api.MaxDeed, api.MaxDeed - 400, api.Surely}, {api.MaxDeed, api.MaxDeed - 401, api.Never},
	} {
		n, e := sheets.Agrees(flat(1000, 1000), fieldR(), x.deed, x.off)
		sameInt(t, fmt.Sprint("Agrees with ", x.deed, x.off), n, e, x.want, api.OK)
	}
	// Truly 400000000 / 999000, that is 400.4004: not just 400, and not just 401.
	for _, x := range []struct{ deed, off, want int }{{400, 0, api.Never}, {401, 0, api.Never}, {400, 1, api.Surely}, {401, 1, api.Surely}, {399, 1, api.Never}, {402, 1, api.Never}} {
		n, e := sheets.Agrees(flat(999, 1000), fieldR(), x.deed, x.off)
		sameInt(t, fmt.Sprint("Agrees with ", x.deed, x.off), n, e, x.want, api.OK)
	}
}

// P4.5: each answer, and with a truth alone.
func TestAlike(t *testing.T) {
	corner := api.Sheet{Across: span(900, 1000), Along: span(1000, 1100)}
	for i, x := range []struct {
		s    api.Sheet
		want int
	}{{flat(900, 900), api.Surely}, {flat(900, 901), api.Never}, {widest(), api.Perhaps}, {corner, api.Perhaps}} {
		n, e := sheets.Alike(x.s)
		sameInt(t, fmt.Sprint(i, ": Alike"), n, e, x.want, api.OK)
	}
}
