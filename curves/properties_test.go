package curves_test

import (
	"fmt"
	"slices"
	"testing"

	"knurl/api"
	"knurl/corners"
	"knurl/curves"
	"knurl/wheels"
)

// answers is what the functions say of a curve: at each place the height, the lean, and the integrals to it and from it.
type answers struct {
	heights, leans, draw, rest []api.Span
	line                       []int
	told, fewest               int
	e                          api.Errno
}

func answersOf(c api.Curve) answers {
	var a answers
	a.fewest, _ = curves.Fewest(c)
	a.draw, a.e = curves.Draw(c)
	a.line, _ = curves.Best(c)
	a.told, _ = curves.Told(c)
	for place := range c.Long + 1 {
		s, _ := curves.Height(c, place)
		a.heights = append(a.heights, s)
		s, _ = curves.Integral(c, place, c.Long)
		a.rest = append(a.rest, s)
	}
	for place := range c.Long {
		s, _ := curves.Lean(c, place)
		a.leans = append(a.leans, s)
	}
	return a
}

// spans returns all spans of the answers.
func (a answers) spans() []api.Span { return slices.Concat(a.heights, a.leans, a.draw, a.rest) }

// areWithin returns whether no span is wider than the one at the same place of other answers.
func (a answers) areWithin(other answers) bool {
	for i, s := range a.spans() {
		if !isWithin(s, other.spans()[i]) {
			return false
		}
	}
	return true
}

// medium calls a test with curves of any number of places and knots, without the greatest numbers of heights.
func medium(state uint64, times int, try func(n *numbers, c api.Curve)) {
	n := numbers{state: state}
	for range times {
		wide := n.from(0, 16)
		try(&n, n.curve(n.from(1, api.MaxLong), n.from(0, 5), n.between(wide), n.from(0, api.MaxKnots), n.from(0, 4)))
	}
}

// P7.11
func TestEachTruth(t *testing.T) {
	many := 0
	said := map[int]int{}
	small(11, 600, func(n *numbers, c api.Curve) {
		a := answersOf(c)
		from := n.from(0, c.Long)
		to := n.from(from, c.Long)
		level := n.from(c.Range.Low, min(api.MaxHeight, c.Range.High+2))
		s, _ := curves.Integral(c, from, to)
		known, _ := curves.Level(c, level, from, to)
		for _, l := range truths(c) {
			many++
			said[known]++
			if top := slices.Max(l[from : to+1]); known == api.Surely && top < level || known == api.Never && top >= level || !isIn(integral(l, from, to), s) {
				t.Errorf("%d to %d of %v: Integral = %v, Level %d = %d; %v is a truth", from, to, c, s, level, known, l)
			}
			for place, h := range l {
				drawn := integral(l, 0, place)
				if !isIn(h, a.heights[place]) || !isIn(drawn, a.draw[place]) || !isIn(integral(l, place, c.Long), a.rest[place]) || distance(drawn, a.line[place]) > a.told {
					t.Errorf("%+v of %v; %v is a truth", a, c, l)
				}
				if place < c.Long && !isIn(l[place+1]-h, a.leans[place]) {
					t.Errorf("%+v of %v; %v is a truth", a, c, l)
				}
			}
		}
	})
	if many < 10000 || said[api.Surely] < 1000 || said[api.Never] < 1000 || said[api.Perhaps] < 1000 {
		t.Errorf("%d truths, Level says %v", many, said)
	}
}

// P7.12
func TestJoined(t *testing.T) {
	none, joined := 0, 0
	medium(12, 600, func(n *numbers, c api.Curve) {
		l, e := curves.Draw(c)
		if e == api.OK && l[0] != span(0, 0) {
			t.Errorf("Draw of %v = %v, %d", c, l, e)
		}
		c.Wrong = 0
		places := []int{n.from(0, c.Long), n.from(0, c.Long), n.from(0, c.Long)}
		slices.Sort(places)
		whole, e := curves.Integral(c, places[0], places[2])
		first, f := curves.Integral(c, places[0], places[1])
		second, g := curves.Integral(c, places[1], places[2])
		if e != f || e != g || whole != span(first.Low+second.Low, first.High+second.High) {
			t.Errorf("%v of %v: Integral = %v, %d; %v, %d and %v, %d", places, c, whole, e, first, f, second, g)
		}
		if e != api.OK {
			none++
		} else if places[0] < places[1] && places[1] < places[2] {
			joined++
		}
	})
	if none < 50 || joined < 50 {
		t.Errorf("%d without a truth, %d joined", none, joined)
	}
}

// P7.13: one more knot.
func TestOneMoreKnot(t *testing.T) {
	both, none, less := 0, 0, 0
	medium(13, 400, func(n *numbers, c api.Curve) {
		if len(c.Knots) == api.MaxKnots {
			return
		}
		more := copied(c)
		place := n.from(0, c.Long)
		more.Knots = slices.Insert(more.Knots, n.from(0, len(c.Knots)), n.knot(place, n.from(c.Range.Low, c.Range.High), 3))
		before, after := answersOf(c), answersOf(more)
		if after.fewest < before.fewest || after.fewest > before.fewest+1 || before.e != api.OK && after.e == api.OK {
			t.Errorf("%+v of %v; %+v of %v", before, c, after, more)
		}
		if after.e != api.OK {
			none++
			return
		}
		both++
		if !after.areWithin(before) || after.told > before.told {
			t.Errorf("%+v of %v; %+v of %v", before, c, after, more)
		}
		if after.told < before.told {
			less++
		}
	})
	if both < 100 || none < 30 || less < 50 {
		t.Errorf("%d have truths, %d none, %d are less off", both, none, less)
	}
}

// P7.13: what is wider, or steeper, or more wrong.
func TestWider(t *testing.T) {
	both, wider := map[int]int{}, map[int]int{}
	medium(113, 450, func(n *numbers, c api.Curve) {
		more, way := copied(c), n.from(0, 2)
		switch way {
		case 0:
			more.Slope = n.from(c.Slope, api.MaxSlope)
		case 1:
			more.Wrong = n.from(c.Wrong, api.MaxKnots)
		case 2:
			more.Range = span(max(-api.MaxHeight, c.Range.Low-n.from(0, 3)), min(api.MaxHeight, c.Range.High+n.from(0, 3)))
		}
		before, after := answersOf(c), answersOf(more)
		if before.e != api.OK {
			return
		}
		both[way]++
		if after.e != api.OK || !before.areWithin(after) || after.told < before.told || after.fewest > before.fewest {
			t.Errorf("%+v of %v; %+v of %v", before, c, after, more)
		}
		if !after.areWithin(before) {
			wider[way]++
		}
	})
	for way := range 3 {
		if both[way] < 80 || wider[way] < 30 {
			t.Errorf("%d: %d have truths, %d are wider", way, both[way], wider[way])
		}
	}
}

// backwards returns the curve from Long to 0.
func backwards(c api.Curve) api.Curve {
	c = copied(c)
	for i := range c.Knots {
		c.Knots[i].At = c.Long - c.Knots[i].At
	}
	return c
}

// turned returns a span of the other sign, its ends exchanged.
func turned(s api.Span) api.Span { return span(-s.High, -s.Low) }

// upsideDown returns the curve with all heights of the other sign.
func upsideDown(c api.Curve) api.Curve {
	c = copied(c)
	c.Range = turned(c.Range)
	for i, k := range c.Knots {
		c.Knots[i].Height = turned(k.Height)
	}
	return c
}

// P7.14
func TestTheOtherWay(t *testing.T) {
	found := map[api.Errno]int{}
	medium(14, 250, func(_ *numbers, c api.Curve) {
		a, back, down := answersOf(c), answersOf(backwards(c)), answersOf(upsideDown(c))
		found[a.e]++
		if back.e != a.e || back.fewest != a.fewest || down.e != a.e || down.fewest != a.fewest {
			t.Errorf("%+v of %v; backwards %+v; upside down %+v", a, c, back, down)
		}
		if a.e != api.OK {
			return
		}
		for place := range c.Long + 1 {
			other := c.Long - place
			if back.heights[other] != a.heights[place] || back.rest[other] != a.draw[place] || back.draw[other] != a.rest[place] {
				t.Errorf("%+v of %v; backwards %+v", a, c, back)
			}
			if down.heights[place] != turned(a.heights[place]) || down.draw[place] != turned(a.draw[place]) || down.rest[place] != turned(a.rest[place]) {
				t.Errorf("%+v of %v; upside down %+v", a, c, down)
			}
			if place < c.Long && (back.leans[other-1] != turned(a.leans[place]) || down.leans[place] != turned(a.leans[place])) {
				t.Errorf("%+v of %v; backwards %+v; upside down %+v", a, c, back, down)
			}
		}
	})
	if found[api.OK] < 120 || found[api.ErrNone] < 30 {
		t.Errorf("found %v", found)
	}
}

// raised returns a curve whose bounds of heights are all greater by a number, or less if this is below 0.
func raised(c api.Curve, h int) api.Curve {
	c = copied(c)
	c.Range = span(c.Range.Low+h, c.Range.High+h)
	for i, k := range c.Knots {
		c.Knots[i].Height = span(k.Height.Low+h, k.Height.High+h)
	}
	return c
}

// P7.15
func TestHigher(t *testing.T) {
	found := map[api.Errno]int{}
	medium(15, 400, func(n *numbers, c api.Curve) {
		h := n.from(-20, 20)
		high := raised(c, h)
		if curves.Check(high) != api.OK {
			return
		}
		a, b := answersOf(c), answersOf(high)
		found[a.e]++
		if b.e != a.e || b.fewest != a.fewest || !slices.Equal(b.leans, a.leans) {
			t.Errorf("%+v of %v; higher by %d: %+v", a, c, h, b)
		}
		if a.e != api.OK {
			return
		}
		for place := range c.Long + 1 {
			by, to, from := a.heights[place], a.draw[place], a.rest[place]
			left := c.Long - place
			if b.heights[place] != span(by.Low+h, by.High+h) || b.draw[place] != span(to.Low+2*h*place, to.High+2*h*place) || b.rest[place] != span(from.Low+2*h*left, from.High+2*h*left) {
				t.Errorf("%+v of %v; higher by %d: %+v", a, c, h, b)
			}
		}
	})
	if found[api.OK] < 100 || found[api.ErrNone] < 20 {
		t.Errorf("found %v", found)
	}
}

// P7.16
func TestKnown(t *testing.T) {
	level, told := map[bool]int{}, map[bool]int{}
	medium(16, 600, func(n *numbers, c api.Curve) {
		if n.from(0, 1) == 0 {
			c.Slope = 0
		}
		a := answersOf(c)
		if a.e != api.OK {
			return
		}
		single := !slices.ContainsFunc(a.draw, func(s api.Span) bool { return s.Low != s.High })
		told[single]++
		if (a.told == 0) != single {
			t.Errorf("%+v of %v", a, c)
		}
		if c.Slope > 0 {
			return
		}
		h := a.heights[0]
		level[h.Low == h.High]++
		if len(slices.Compact(slices.Clone(a.heights))) != 1 || a.told != c.Long*(h.High-h.Low) {
			t.Errorf("%+v of %v", a, c)
		}
	})
	if level[true] < 50 || level[false] < 50 || told[true] < 50 || told[false] < 100 {
		t.Errorf("without a slope: %v; Told is 0: %v", level, told)
	}
}

// P7.10: no other place leaves less doubt, whatever is measured.
func TestNextMeasured(t *testing.T) {
	found := 0
	small(110, 300, func(_ *numbers, c api.Curve) {
		next, e := curves.Next(c)
		if e != api.OK {
			return
		}
		found++
		least := doubtOf(c, next)
		for place := range c.Long + 1 {
			s, _ := curves.Height(c, place)
			if s.Low < s.High && (doubtOf(c, place) < least || doubtOf(c, place) == least && place < next) {
				t.Errorf("Next of %v = %d: %d; %d: %d", c, next, least, place, doubtOf(c, place))
			}
		}
	})
	if found < 100 {
		t.Errorf("only %d have a next place", found)
	}
}

// doubtOf returns the greatest doubt of truths with the same height at a place.
func doubtOf(c api.Curve, place int) int {
	sums := map[int]api.Span{}
	for _, l := range truths(c) {
		all := integral(l, 0, c.Long)
		s, found := sums[l[place]]
		if !found {
			s = empty()
		}
		sums[l[place]] = united(s, span(all, all))
	}
	most := 0
	for _, s := range sums {
		most = max(most, s.High-s.Low)
	}
	return most
}

// hill returns the polygon below heights.
func hill(heights []int) []api.Point {
	long := len(heights) - 1
	p := []api.Point{{X: 0, Y: 0}, {X: long, Y: 0}}
	for place := long; place >= 0; place-- {
		p = append(p, api.Point{X: place, Y: heights[place]})
	}
	return p
}

// P0.5
func TestHill(t *testing.T) {
	n := numbers{state: 5}
	for range 300 {
		long, slope := n.from(1, api.MaxKnots-1), n.from(0, api.MaxSlope)
		c := curve(long, slope, span(n.from(-api.MaxHeight, 1), api.MaxHeight), 0)
		heights := n.heights(long, slope, span(1, api.MaxHeight))
		for place, h := range heights {
			c.Knots = append(c.Knots, knot(place, h, h))
		}
		twice, e := corners.Twice(hill(heights))
		if e != api.OK {
			t.Fatalf("Twice of %v: %d", hill(heights), e)
		}
		s, e := curves.Integral(c, 0, long)
		same(t, fmt.Sprint("Integral of ", c), s, e, span(twice, twice), api.OK)
	}
}

// P0.5: heights that are known as they are all the same.
func TestFlatHill(t *testing.T) {
	for long := 1; long <= api.MaxLong; long++ {
		for _, h := range []int{1, 7, 100} {
			twice, e := corners.Twice([]api.Point{{X: 0, Y: 0}, {X: long, Y: 0}, {X: long, Y: h}, {X: 0, Y: h}})
			if e != api.OK {
				t.Fatalf("Twice: %d", e)
			}
			for i, c := range []api.Curve{curve(long, 0, span(-100, 100), 0, long, h, h), curve(long, 20, span(h, h), 8)} {
				s, e := curves.Integral(c, 0, long)
				same(t, fmt.Sprint(i, ": Integral, ", long, " at ", h), s, e, span(twice, twice), api.OK)
			}
		}
	}
}

// shown returns a walk whose readings differ by an area, as far as a wheel shows it.
func (n *numbers) shown(w api.Wheel, area int) api.Walk {
	x := api.Walk{Sense: 2*n.from(0, 1) - 1, Side: 2*n.from(0, 1) - 1, Start: n.from(0, w.Full-1)}
	x.End = ((x.Start+x.Sense*area)%w.Full + w.Full) % w.Full
	return x
}

// P0.6: with a wheel that tells all areas of its Guess from each other.
func TestAreaUnderTheCurve(t *testing.T) {
	told, against := 0, 0
	small(6, 400, func(n *numbers, c api.Curve) {
		if n.from(0, 2) > 0 {
			c = raised(c, n.from(0, 2)-c.Range.Low)
		}
		heights := answersOf(c).heights
		guess, e := curves.Integral(c, 0, c.Long)
		if e != api.OK || slices.ContainsFunc(heights, func(s api.Span) bool { return s.Low < 0 }) {
			return
		}
		w := api.Wheel{Full: max(10, n.from(guess.High-guess.Low+1, api.MaxFull)), Guess: guess}
		var last api.Walk
		before := -1
		for _, l := range truths(c) {
			area := integral(l, 0, c.Long)
			if area == before {
				continue
			}
			walk := n.shown(w, area)
			areas, e := wheels.Areas(w, []api.Walk{walk})
			sameList(t, fmt.Sprint("Areas of ", w, walk), areas, e, []int{area}, api.OK)
			told++
			if before >= 0 {
				areas, e := wheels.Areas(w, []api.Walk{last, walk})
				sameList(t, fmt.Sprint("Areas of ", w, last, walk), areas, e, nil, api.ErrNone)
				against++
			}
			last, before = walk, area
		}
	})
	if told < 1000 || against < 800 {
		t.Errorf("%d are told, %d contradict each other", told, against)
	}
}
