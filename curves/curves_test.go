package curves_test

import (
	"fmt"
	"math"
	"slices"
	"testing"

	"knurl/api"
	"knurl/curves"
)

// P7.1
func TestCheck(t *testing.T) {
	for name, c := range badCurves() {
		if e := curves.Check(c); e != api.ErrCurve {
			t.Errorf("Check of %s: %d", name, e)
		}
	}
	for i, c := range []api.Curve{
		curveC(), curveD(), greatestCurve(), curve(1, 0, span(0, 0), 0), curve(12, 20, span(-100, 100), 8), curve(1, 0, span(100, 100), 0), curve(1, 0, span(-100, -100), 0),
		curve(12, 0, span(0, 5), 0, 12, -100, 100, 0, 100, 100, 12, -100, -100, 0, 7, 8), curve(3, 1, span(-5, 5), 8),
	} {
		if e := curves.Check(c); e != api.OK {
			t.Errorf("%d: Check: %d", i, e)
		}
	}
}

// The chapter's examples.
func TestExamples(t *testing.T) {
	for at, want := range []api.Span{span(0, 0), span(0, 3), span(0, 6), span(3, 9), span(6, 6)} {
		s, e := curves.Height(curveC(), at)
		same(t, fmt.Sprint("Height of C, ", at), s, e, want, api.OK)
	}
	for _, at := range []int{1, 3} {
		s, e := curves.Lean(curveC(), at)
		same(t, fmt.Sprint("Lean of C, ", at), s, e, span(-3, 3), api.OK)
	}
	for _, x := range []struct{ level, b, want int }{{5, 4, api.Surely}, {5, 3, api.Perhaps}, {10, 4, api.Never}} {
		n, e := curves.Level(curveC(), x.level, 0, x.b)
		same(t, fmt.Sprint("Level of C, ", x.level, ", 0 to ", x.b), n, e, x.want, api.OK)
	}
	s, e := curves.Integral(curveC(), 0, 4)
	same(t, "Integral of C, 0 to 4", s, e, span(12, 42), api.OK)
	s, e = curves.Integral(curveC(), 2, 4)
	same(t, "Integral of C, 2 to 4", s, e, span(12, 30), api.OK)
	spans, e := curves.Draw(curveC())
	sameList(t, "Draw of C", spans, e, []api.Span{span(0, 0), span(0, 3), span(0, 12), span(3, 27), span(12, 42)}, api.OK)
	line, e := curves.Best(curveC())
	sameList(t, "Best of C", line, e, []int{0, 1, 6, 15, 27}, api.OK)
	n, e := curves.Told(curveC())
	same(t, "Told of C", n, e, 15, api.OK)
	n, e = curves.Next(curveC())
	same(t, "Next of C", n, e, 2, api.OK)
	n, e = curves.Fewest(curveD())
	same(t, "Fewest of C with one more knot", n, e, 1, api.OK)
}

// levels are those that tell a span from others.
func levels(s api.Span) []int {
	var l []int
	for _, n := range []int{-api.MaxHeight, s.Low - 1, s.Low, s.Low + 1, s.High, s.High + 1, api.MaxHeight} {
		if isIn(n, span(-api.MaxHeight, api.MaxHeight)) {
			l = append(l, n)
		}
	}
	slices.Sort(l)
	return slices.Compact(l)
}

// levelOf is what Level says, if the greatest heights in truths are in a span.
func levelOf(tops api.Span, level int) int {
	switch {
	case tops.Low >= level:
		return api.Surely
	case tops.High < level:
		return api.Never
	}
	return api.Perhaps
}

// drawn returns the drawn line of spans of Draw, and by how much it can be off.
func drawn(spans []api.Span) (line []int, off int) {
	for _, s := range spans {
		middle := int(math.Floor(float64(s.Low+s.High) / 2))
		line = append(line, middle)
		off = max(off, distance(middle, s.Low), distance(middle, s.High))
	}
	return line, off
}

// sameWhole compares what the functions say of a whole curve with what is known.
func sameWhole(t *testing.T, c api.Curve, k known) {
	t.Helper()
	call := fmt.Sprintf(" of %v", c)
	n, e := curves.Fewest(c)
	same(t, "Fewest"+call, n, e, k.fewest, api.OK)
	n, e = curves.Next(c)
	same(t, "Next"+call, n, e, k.next, k.noNext)
	var want []api.Span
	if k.any {
		want = k.integrals[0][:c.Long+1]
	}
	spans, e := curves.Draw(c)
	sameList(t, "Draw"+call, spans, e, want, k.error())
	wantLine, wantOff := drawn(want)
	line, e := curves.Best(c)
	sameList(t, "Best"+call, line, e, wantLine, k.error())
	n, e = curves.Told(c)
	same(t, "Told"+call, n, e, wantOff, k.error())
}

// samePlaces compares what the functions say from a place a to a place b with what is known, and counts what Level says.
func samePlaces(t *testing.T, c api.Curve, k known, a, b int, said map[int]int) {
	t.Helper()
	call := fmt.Sprintf(" of %v, %d to %d", c, a, b)
	s, e := curves.Height(c, b)
	same(t, "Height"+call, s, e, k.heights[b], k.error())
	if a < c.Long {
		s, e = curves.Lean(c, a)
		same(t, "Lean"+call, s, e, k.leans[a], k.error())
	}
	s, e = curves.Integral(c, a, b)
	same(t, "Integral"+call, s, e, k.integrals[a][b], k.error())
	for _, level := range levels(k.tops[a][b]) {
		n, e := curves.Level(c, level, a, b)
		want := 0
		if k.any {
			want = levelOf(k.tops[a][b], level)
		}
		same(t, fmt.Sprint("Level", call, " at least ", level), n, e, want, k.error())
		said[n]++
	}
}

// tally counts what curves are like, so that a test can say that it had some of each kind.
type tally struct {
	none, noNext, gaps int
	fewest, next, said map[int]int
}

func newTally() tally {
	return tally{fewest: map[int]int{}, next: map[int]int{}, said: map[int]int{}}
}

func (x *tally) add(k known) {
	x.fewest[k.fewest]++
	switch {
	case !k.any:
		x.none++
	case k.noNext != api.OK:
		x.noNext++
	default:
		x.next[k.next]++
	}
}

// P7.2 to P7.10: as all lists of heights say, on small curves.
func TestTried(t *testing.T) {
	x := newTally()
	small(2, 2500, func(n *numbers, c api.Curve) {
		k := tried(c)
		sameWhole(t, c, k)
		a := n.from(0, c.Long)
		samePlaces(t, c, k, a, n.from(a, c.Long), x.said)
		x.add(k)
	})
	if x.none < 200 || x.noNext < 100 || x.fewest[1] < 200 || x.fewest[2] < 100 || x.next[0] < 100 || x.next[1] < 100 || x.next[2] < 100 || x.next[3] < 20 || x.said[api.Surely] < 100 || x.said[api.Never] < 100 || x.said[api.Perhaps] < 100 {
		t.Errorf("%+v", x)
	}
}

// P7.3 to P7.6: at all places, on small curves.
func TestAllPlaces(t *testing.T) {
	said := map[int]int{}
	small(3, 150, func(n *numbers, c api.Curve) {
		k := tried(c)
		for a := range c.Long + 1 {
			for b := a; b <= c.Long; b++ {
				samePlaces(t, c, k, a, b, said)
			}
		}
	})
	if said[api.Surely] < 1000 || said[api.Never] < 1000 || said[api.Perhaps] < 1000 {
		t.Errorf("Level says %v", said)
	}
}

// P7.2 to P7.10: as envelopes say, on curves of all sizes.
func TestReckoned(t *testing.T) {
	x := newTally()
	large(4, 400, func(n *numbers, c api.Curve) {
		k := reckoned(c)
		sameWhole(t, c, k)
		a := n.from(0, c.Long)
		samePlaces(t, c, k, a, n.from(a, c.Long), x.said)
		x.add(k)
	})
	if x.none < 20 || x.noNext < 5 || x.fewest[1] < 20 || x.fewest[2] < 10 || len(x.next) < 10 || x.said[api.Surely] < 50 || x.said[api.Never] < 50 || x.said[api.Perhaps] < 50 {
		t.Errorf("%+v", x)
	}
}

// P7.2 to P7.10: both ways of working it out that the tests use say the same.
func TestOracles(t *testing.T) {
	small(5, 500, func(_ *numbers, c api.Curve) {
		if k, l := tried(c), reckoned(c); k != l {
			t.Errorf("%v: %+v; %+v", c, k, l)
		}
	})
}

// P7.2 to P7.10: where everything is as great as it can be, or as small.
func TestEnds(t *testing.T) {
	high, low := curve(12, 20, span(100, 100), 0), curve(12, 0, span(-100, -100), 0)
	wide, thin := greatestCurve(), curve(1, 0, span(0, 0), 8)
	for i, x := range []struct {
		c                         api.Curve
		height, lean, whole, half api.Span
		told, next                int
		noNext                    api.Errno
	}{
		{high, span(100, 100), span(0, 0), span(2400, 2400), span(1200, 1200), 0, 0, api.ErrNone},
		{low, span(-100, -100), span(0, 0), span(-2400, -2400), span(-1200, -1200), 0, 0, api.ErrNone},
		{wide, span(-100, 100), span(-20, 20), span(-2400, 2400), span(-1200, 1200), 2400, 5, api.OK},
		{thin, span(0, 0), span(0, 0), span(0, 0), span(0, 0), 0, 0, api.ErrNone},
	} {
		s, e := curves.Height(x.c, x.c.Long)
		same(t, fmt.Sprint(i, ": Height"), s, e, x.height, api.OK)
		s, e = curves.Lean(x.c, x.c.Long-1)
		same(t, fmt.Sprint(i, ": Lean"), s, e, x.lean, api.OK)
		s, e = curves.Integral(x.c, 0, x.c.Long)
		same(t, fmt.Sprint(i, ": Integral"), s, e, x.whole, api.OK)
		s, e = curves.Integral(x.c, (x.c.Long+1)/2, x.c.Long)
		same(t, fmt.Sprint(i, ": Integral of a half"), s, e, x.half, api.OK)
		s, e = curves.Integral(x.c, x.c.Long, x.c.Long)
		same(t, fmt.Sprint(i, ": Integral of nothing"), s, e, span(0, 0), api.OK)
		n, e := curves.Told(x.c)
		same(t, fmt.Sprint(i, ": Told"), n, e, x.told, api.OK)
		n, e = curves.Next(x.c)
		same(t, fmt.Sprint(i, ": Next"), n, e, x.next, x.noNext)
		n, e = curves.Fewest(x.c)
		same(t, fmt.Sprint(i, ": Fewest"), n, e, 0, api.OK)
		n, e = curves.Level(x.c, -100, 0, 0)
		same(t, fmt.Sprint(i, ": Level"), n, e, api.Surely, api.OK)
		n, e = curves.Level(x.c, 100, 0, x.c.Long)
		same(t, fmt.Sprint(i, ": Level"), n, e, levelOf(x.height, 100), api.OK)
	}
}

// P7.2: Wrong does not matter, heights of knots that are out of the Range are never right, and several knots can be at one place.
func TestFewest(t *testing.T) {
	for i, x := range []struct {
		c    api.Curve
		want int
	}{
		{curveC(), 0}, {curve(4, 3, span(0, 10), 0), 0}, {curve(1, 0, span(0, 5), 0, 0, 6, 9), 1}, {curve(1, 0, span(0, 5), 0, 0, 5, 9), 0},
		{curve(12, 8, span(-100, 100), 0, 0, -100, -100, 12, 0, 0), 1}, {curve(12, 9, span(-100, 100), 0, 0, -100, -100, 12, 0, 0), 0}, {curve(2, 20, span(-9, 9), 0, 1, 0, 0, 1, 1, 1, 1, 2, 2, 1, 0, 2), 2},
		{curve(12, 20, span(0, 0), 0, 0, 1, 1, 1, 1, 1, 2, 1, 1, 3, 1, 1, 4, -1, -1, 5, 1, 1, 12, 1, 1, 12, 1, 100), 8},
	} {
		for wrong := range api.MaxKnots + 1 {
			x.c.Wrong = wrong
			n, e := curves.Fewest(x.c)
			same(t, fmt.Sprint(i, ": Fewest with Wrong ", wrong), n, e, x.want, api.OK)
			if _, e := curves.Draw(x.c); (e == api.OK) != (wrong >= x.want) {
				t.Errorf("%d: Draw with Wrong %d: %d", i, wrong, e)
			}
		}
	}
}

// P7.3, P7.10: heights at a place need not be all from the least to the greatest one.
func TestGaps(t *testing.T) {
	c := curve(1, 0, span(0, 9), 1, 0, 2, 2, 0, 7, 7)
	s, e := curves.Height(c, 1)
	same(t, "Height", s, e, span(2, 7), api.OK)
	n, e := curves.Next(c)
	same(t, "Next", n, e, 0, api.OK)
	// Of 0 or 5 the first height leaves two for the second one; this one leaves one for the first.
	n, e = curves.Next(curve(1, 1, span(0, 5), 1, 0, 0, 0, 0, 5, 5))
	same(t, "Next of both", n, e, 1, api.OK)
	for level, want := range []int{api.Surely, api.Surely, api.Surely, api.Perhaps, api.Perhaps, api.Perhaps, api.Perhaps, api.Perhaps, api.Never, api.Never} {
		n, e := curves.Level(c, level, 0, 1)
		same(t, fmt.Sprint("Level ", level), n, e, want, api.OK)
	}
}

// P7.8, P7.9: below 0 the drawn line is rounded down as well.
func TestRoundedDown(t *testing.T) {
	for i, x := range []struct {
		c    api.Curve
		line []int
		told int
	}{
		{curve(1, 1, span(-1, 0), 0, 0, 0, 0), []int{0, -1}, 1}, {curve(1, 1, span(0, 1), 0, 0, 0, 0), []int{0, 0}, 1}, {curve(2, 3, span(-4, -1), 0, 0, -1, -1), []int{0, -4, -9}, 5}, {curve(1, 5, span(-100, 100), 0, 0, -100, -100), []int{0, -198}, 3},
	} {
		line, e := curves.Best(x.c)
		sameList(t, fmt.Sprint(i, ": Best"), line, e, x.line, api.OK)
		n, e := curves.Told(x.c)
		same(t, fmt.Sprint(i, ": Told"), n, e, x.told, api.OK)
	}
}

// P7.3 to P7.6: places and levels that there are not.
func TestBadArguments(t *testing.T) {
	for _, at := range []int{math.MinInt, -1, 5, math.MaxInt} {
		s, e := curves.Height(curveC(), at)
		same(t, fmt.Sprint("Height of C, ", at), s, e, span(0, 0), api.ErrArg)
		for _, x := range [][2]int{{at, 2}, {2, at}, {at, at}} {
			s, e = curves.Integral(curveC(), x[0], x[1])
			same(t, fmt.Sprint("Integral of C, ", x), s, e, span(0, 0), api.ErrArg)
			n, e := curves.Level(curveC(), 3, x[0], x[1])
			same(t, fmt.Sprint("Level of C, ", x), n, e, 0, api.ErrArg)
		}
	}
	for _, at := range []int{math.MinInt, -1, 4, 5, math.MaxInt} {
		s, e := curves.Lean(curveC(), at)
		same(t, fmt.Sprint("Lean of C, ", at), s, e, span(0, 0), api.ErrArg)
	}
	s, e := curves.Integral(curveC(), 3, 2)
	same(t, "Integral of C, 3 to 2", s, e, span(0, 0), api.ErrArg)
	n, e := curves.Level(curveC(), 3, 3, 2)
	same(t, "Level of C, 3 to 2", n, e, 0, api.ErrArg)
	for _, level := range []int{math.MinInt, -101, 101, math.MaxInt} {
		n, e := curves.Level(curveC(), level, 0, 4)
		same(t, fmt.Sprint("Level of C, ", level), n, e, 0, api.ErrArg)
	}
	for _, level := range []int{-100, 100} {
		n, e := curves.Level(curveC(), level, 0, 4)
		same(t, fmt.Sprint("Level of C, ", level), n, e, levelOf(span(6, 9), level), api.OK)
	}
}
