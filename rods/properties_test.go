package rods_test

import (
	"slices"
	"testing"

	"knurl/api"
	"knurl/corners"
	"knurl/rods"
	"knurl/wheels"
)

// inside returns whether a span is in another one.
func inside(a, b api.Span) bool { return b.Low <= a.Low && a.High <= b.High }

func has(s api.Span, n int) bool { return s.Low <= n && n <= s.High }

// spans returns Areas of all fields, Share of all fields, Owner of all owners, and Class of all classes, by words and numbers. There is a truth, and not too many.
func spans(t *testing.T, b api.RodBook) map[kind]api.Span {
	t.Helper()
	m := map[kind]api.Span{}
	add := func(word string, n int) func(s api.Span, e api.Errno) {
		return func(s api.Span, e api.Errno) {
			if e != api.OK {
				t.Fatalf("%s %d of %+v: %d", word, n, b, e)
			}
			m[kind{word, n}] = s
		}
	}
	for _, f := range b.Fields {
		add("Areas", f.Id)(rods.Areas(b, f.Id))
		add("Share", f.Id)(rods.Share(b, f.Id))
	}
	for owner := range api.MaxOwner + 1 {
		add("Owner", owner)(rods.Owner(b, owner))
	}
	for class := range b.Rates {
		add("Class", class)(rods.Class(b, class))
	}
	return m
}

type kind struct {
	word string
	n    int
}

// doubt returns Doubt. There is a truth, and not too many.
func doubt(t *testing.T, b api.RodBook) int {
	t.Helper()
	n, e := rods.Doubt(b)
	if e != api.OK {
		t.Fatalf("Doubt of %+v: %d", b, e)
	}
	return n
}

// isKnown returns whether there is a truth, and not too many.
func isKnown(t *testing.T, b api.RodBook) bool {
	t.Helper()
	n := many(t, b)
	return 0 < n && n <= api.MaxTruths
}

// P11.12.
func TestEachTruth(t *testing.T) {
	levies, nothing := 0, 0
	small(21, 1500, func(n *numbers, b api.RodBook) {
		if !isKnown(t, b) {
			return
		}
		m := spans(t, b)
		k := learn(b, byReturns)
		for range 3 {
			i := n.from(0, len(k.truths)-1)
			all := 0
			paid := map[kind]int{}
			for place, pennies := range k.paid[i] {
				f := b.Fields[place]
				all += pennies
				paid[kind{"Share", f.Id}] += pennies
				paid[kind{"Owner", f.Owner}] += pennies
				paid[kind{"Class", f.Class}] += pennies
			}
			for what, s := range m {
				if what.word != "Areas" && !has(s, paid[what]) {
					t.Errorf("%+v with the areas %v: %d is paid; %s %d is %v", b, k.truths[i], paid[what], what.word, what.n, s)
				}
			}
			switch {
			case sumOf(b, k.truths[i]) == 0 && all == 0:
				nothing++
			case all == b.Levy:
				levies++
			default:
				t.Errorf("%+v with the areas %v: %d is paid", b, k.truths[i], all)
			}
		}
	})
	if levies < 2000 || nothing < 500 {
		t.Errorf("cases: %d, %d", levies, nothing)
	}
}

// P11.12: if all areas are known, all shares together are just the levy.
func TestJustTheLevy(t *testing.T) {
	levies, nothing := 0, 0
	n := numbers{state: 22}
	for range 3000 {
		b := n.book(n.from(0, api.MaxFields), 0)
		k := learn(b, byRests)
		if len(k.truths) != 1 {
			continue
		}
		all := 0
		for _, f := range b.Fields {
			s, e := rods.Share(b, f.Id)
			if e != api.OK || s.Low != s.High {
				t.Errorf("Share of %+v, %d = %v, %d", b, f.Id, s, e)
			}
			all += s.Low
		}
		want := b.Levy
		if sumOf(b, k.truths[0]) == 0 {
			want = 0
			nothing++
		} else {
			levies++
		}
		if all != want {
			t.Errorf("%+v: all pay %d, not %d", b, all, want)
		}
	}
	if levies < 1500 || nothing < 200 {
		t.Errorf("cases: %d, %d", levies, nothing)
	}
}

// P11.13.
func TestAnyOrder(t *testing.T) {
	found := map[api.Errno]int{}
	try := func(n *numbers, b api.RodBook) {
		other := copied(b)
		shuffle(n, other.Fields)
		shuffle(n, other.Measures)
		if len(b.Measures) > 0 && len(b.Measures) < api.MaxMeasures {
			m := b.Measures[n.from(0, len(b.Measures)-1)]
			if n.from(0, 1) == 0 {
				m.Area = span(n.from(0, m.Area.Low), n.from(m.Area.High, api.MaxAcre))
			}
			other.Measures = slices.Insert(other.Measures, n.from(0, len(other.Measures)), m)
		}
		for _, q := range queries(b) {
			sameAnswers(t, "in another order", asked(other, q), asked(b, q))
		}
		_, e := rods.Many(b)
		found[e]++
		if t.Failed() {
			t.Fatalf("%+v, and in another order %+v", b, other)
		}
	}
	small(23, 1500, try)
	large(24, 60, try)
	if found[api.OK] < 1000 || found[api.ErrNone] < 100 || found[api.ErrMany] < 5 || len(found) != 3 {
		t.Errorf("cases: %v", found)
	}
}

// P11.14.
func TestOneMoreMeasure(t *testing.T) {
	less, equal, none, fewer := 0, 0, 0, 0
	try := func(n *numbers, b api.RodBook) {
		if len(b.Fields) == 0 {
			return
		}
		id := b.Fields[n.from(0, len(b.Fields)-1)].Id
		s, e := rods.Areas(b, id)
		if e == api.ErrNone {
			return
		}
		m := api.Measure{Field: id, Area: n.around(n.from(s.Low, s.High), n.from(0, 3))}
		if n.from(0, 8) == 0 {
			m.Area = n.around(n.from(0, api.MaxAcre), 3)
		}
		more := measured(b, m)
		before, after := many(t, b), many(t, more)
		if after > before {
			t.Errorf("%+v: %d truths; with %+v: %d", b, before, m, after)
		}
		switch {
		case after == 0:
			none++
			return
		case after > api.MaxTruths:
			return
		case before > api.MaxTruths:
			fewer++
			return
		}
		wider := spans(t, b)
		for what, s := range spans(t, more) {
			if !inside(s, wider[what]) {
				t.Errorf("%+v: %s %d is %v; with %+v it is %v", b, what.word, what.n, wider[what], m, s)
			}
		}
		x, y := doubt(t, b), doubt(t, more)
		if y > x {
			t.Errorf("%+v: Doubt %d; with %+v: %d", b, x, m, y)
		}
		if y < x {
			less++
		} else {
			equal++
		}
	}
	small(25, 2500, try)
	large(26, 160, try)
	if less < 200 || equal < 200 || none < 50 || fewer < 2 {
		t.Errorf("cases: %d, %d, %d, %d", less, equal, none, fewer)
	}
}

// P11.15: each area of each field with more than one is measured exactly, in a copy.
func TestNextField(t *testing.T) {
	several, alike := 0, 0
	small(27, 2500, func(n *numbers, b api.RodBook) {
		if !isKnown(t, b) {
			return
		}
		id, e := rods.Next(b)
		worst := map[int]int{}
		for _, f := range b.Fields {
			s, _ := rods.Areas(b, f.Id)
			for area := s.Low; area <= s.High && s.Low < s.High; area++ {
				worst[f.Id] = max(worst[f.Id], doubt(t, measured(b, measure(f.Id, area, area))))
			}
		}
		if (e == api.OK) != (len(worst) > 0) || e != api.OK && e != api.ErrNone {
			t.Errorf("Next of %+v = %d, %d; the doubts are %v", b, id, e, worst)
		}
		for other, doubt := range worst {
			if doubt < worst[id] || doubt == worst[id] && other < id {
				t.Errorf("Next of %+v = %d, %d; the doubts are %v", b, id, e, worst)
			}
			if doubt == worst[id] && other != id {
				alike++
			}
		}
		if len(worst) > 1 {
			several++
		}
	})
	if several < 1000 || alike < 500 {
		t.Errorf("cases: %d, %d", several, alike)
	}
}

// P11.15: there is no doubt just if all fields are sure.
func TestSureWithoutDoubt(t *testing.T) {
	found := map[bool]int{}
	large(28, 120, func(_ *numbers, b api.RodBook) {
		if !isKnown(t, b) {
			return
		}
		l, e := rods.Sure(b)
		if all := len(l) == len(b.Fields); e != api.OK || all != (doubt(t, b) == 0) || !slices.IsSorted(l) {
			t.Errorf("%+v: Doubt %d, Sure %v, %d", b, doubt(t, b), l, e)
		}
		for _, f := range b.Fields {
			s, _ := rods.Share(b, f.Id)
			if (s.Low == s.High) != slices.Contains(l, f.Id) {
				t.Errorf("%+v: Share of %d is %v, Sure %v", b, f.Id, s, l)
			}
		}
		found[doubt(t, b) == 0]++
	})
	if found[true] < 20 || found[false] < 20 {
		t.Errorf("cases: %v", found)
	}
}

// P11.16.
func TestJoinOfSplit(t *testing.T) {
	n := numbers{state: 29}
	for range 5000 {
		b := n.book(0, 0)
		area := n.from(0, n.pick(100, 10000, api.MaxTotal-1))
		l, e := rods.Split(b, area)
		if e != api.OK || len(l) != len(b.Units)+1 || l[len(l)-1] != area%b.Units[len(b.Units)-1] {
			t.Errorf("Split of %v, %d = %v, %d", b.Units, area, l, e)
		}
		for i, part := range l {
			if part < 0 || i > 0 && part >= b.Units[i-1] {
				t.Errorf("Split of %v, %d = %v", b.Units, area, l)
			}
		}
		joined, e := rods.Join(b, l)
		same(t, "Join", joined, e, area, api.OK)
		more, e := rods.Split(b, n.pick(area+1, n.from(area+1, api.MaxTotal), api.MaxTotal))
		if e != api.OK || slices.Compare(l, more) >= 0 {
			t.Errorf("Split of %v, %d = %v; of more: %v, %d", b.Units, area, l, more, e)
		}
	}
}

// P11.16, the other way around: all that Join takes is what Split returns.
func TestSplitOfJoin(t *testing.T) {
	n := numbers{state: 30}
	found := map[api.Errno]int{}
	for range 5000 {
		b := n.book(0, 0)
		parts := []int{n.from(-1, n.pick(0, 2, 100, api.MaxTotal+1))}
		for _, unit := range b.Units {
			parts = append(parts, n.from(0, unit-n.pick(0, 1, 1, 1)))
		}
		area, e := rods.Join(b, parts)
		found[e]++
		valid, sum := parts[0] >= 0, parts[0]
		for i, unit := range b.Units {
			valid = valid && parts[i+1] < unit
			sum = sum*unit + parts[i+1]
		}
		if !valid || sum > api.MaxTotal {
			same(t, "Join", area, e, 0, api.ErrArg)
			continue
		}
		same(t, "Join", area, e, sum, api.OK)
		l, e := rods.Split(b, area)
		sameList(t, "Split of Join", l, e, parts, api.OK)
	}
	if found[api.OK] < 1000 || found[api.ErrArg] < 1000 || len(found) != 2 {
		t.Errorf("cases: %v", found)
	}
}

// P11.17.
func TestFair(t *testing.T) {
	greater, equal, penny := 0, 0, 0
	n := numbers{state: 31}
	for range 3000 {
		b := n.book(n.from(2, api.MaxFields), 0)
		k := learn(b, byRests)
		if len(k.truths) != 1 {
			continue
		}
		for i, f := range b.Fields {
			for j, g := range b.Fields {
				x, y := weightOf(b, i, k.truths[0][i]), weightOf(b, j, k.truths[0][j])
				s, _ := rods.Share(b, f.Id)
				r, _ := rods.Share(b, g.Id)
				switch {
				case x > y:
					greater++
					if s.Low < r.Low {
						t.Errorf("%+v: the field %d pays %d, the field %d just %d", b, g.Id, r.Low, f.Id, s.Low)
					}
				case x == y && f.Id < g.Id:
					equal++
					penny += s.Low - r.Low
					if s.Low != r.Low && s.Low != r.Low+1 {
						t.Errorf("%+v: the field %d pays %d, the field %d %d", b, f.Id, s.Low, g.Id, r.Low)
					}
				}
			}
		}
	}
	if greater < 5000 || equal < 2000 || penny < 100 {
		t.Errorf("cases: %d, %d, %d", greater, equal, penny)
	}
}

// polygon returns one without crossings: corners that are sorted around a point.
func (n *numbers) polygon(count int) []api.Point {
	for {
		far := n.pick(3, 10, 40)
		var l []api.Point
		for range count {
			l = append(l, api.Point{X: n.from(-far, far), Y: n.from(-far, far)})
		}
		slices.SortFunc(l, func(p, q api.Point) int { return angle(p, q) })
		if corners.Check(l) == api.OK {
			return l
		}
	}
}

// angle compares the directions in which two points lie from 0 0.
func angle(p, q api.Point) int {
	half := func(p api.Point) int {
		if p.Y < 0 || p.Y == 0 && p.X < 0 {
			return 1
		}
		return 0
	}
	if half(p) != half(q) {
		return half(p) - half(q)
	}
	return q.X*p.Y - q.Y*p.X
}

// P0.8: areas are counted in halves of a unit, as those of triangles need not be whole numbers.
func TestCutField(t *testing.T) {
	off, triangular := 0, 0
	n := numbers{state: 32}
	for range 1500 {
		p := n.polygon(n.from(3, 7))
		l, e := corners.Triangles(p)
		area, f := corners.Twice(p)
		if e != api.OK || f != api.OK {
			t.Fatalf("Triangles of %v: %d; Twice: %d", p, e, f)
		}
		b := api.RodBook{Units: []int{2}, Rates: []int{n.from(0, 9), n.from(0, 9)}, Levy: n.from(0, n.pick(10, 100, api.MaxLevy))}
		for id := range n.from(0, api.MaxFields-len(l)) {
			b.Fields = append(b.Fields, field(id, 0, n.from(0, 1)))
			other := n.from(0, 300)
			b.Measures = append(b.Measures, measure(id, other, other))
		}
		whole, cut := copied(b), copied(b)
		whole.Fields = append(whole.Fields, field(99, 1, 1))
		whole.Measures = append(whole.Measures, measure(99, max(area, -area), max(area, -area)))
		for i, x := range l {
			twice, e := corners.Twice([]api.Point{p[x[0]], p[x[1]], p[x[2]]})
			if e != api.OK {
				t.Fatalf("Twice of a triangle of %v: %d", p, e)
			}
			cut.Fields = append(cut.Fields, field(90-i, 1, 1))
			cut.Measures = append(cut.Measures, measure(90-i, max(twice, -twice), max(twice, -twice)))
		}
		if len(cut.Fields) > api.MaxFields || max(area, -area) > api.MaxAcre {
			continue
		}
		triangular++
		a, e := rods.Owner(whole, 1)
		c, f := rods.Owner(cut, 1)
		if e != api.OK || f != api.OK || a.Low != a.High || c.Low != c.High || a.Low-c.Low > len(l) || c.Low-a.Low > len(l) {
			t.Errorf("Owner of %+v = %v, %d; of %+v = %v, %d", whole, a, e, cut, c, f)
		}
		if a != c {
			off++
		}
		sum, want := 0, cut.Levy
		for _, x := range cut.Fields {
			s, _ := rods.Share(cut, x.Id)
			sum += s.Low
		}
		if sumOf(cut, learn(cut, byRests).truths[0]) == 0 {
			want = 0
		}
		if sum != want {
			t.Errorf("%+v: all pay %d, not %d", cut, sum, want)
		}
	}
	if triangular < 1000 || off < 50 {
		t.Errorf("cases: %d, %d", triangular, off)
	}
}

// walks returns walks of a wheel around a figure, that read rightly, but for as much as the wheel can be off.
func (n *numbers) walks(w api.Wheel, area, skew int) []api.Walk {
	var l []api.Walk
	for range n.from(0, 4) {
		k := api.Walk{Sense: n.pick(-1, 1), Side: n.pick(-1, 1), Start: n.from(0, w.Full-1)}
		shown := k.Sense*(area-n.from(0, w.Slip)) + k.Side*skew + n.from(-2*w.Read, 2*w.Read)
		k.End = ((k.Start+shown)%w.Full + w.Full) % w.Full
		l = append(l, k)
	}
	return l
}

// P0.9.
func TestFieldByWheel(t *testing.T) {
	areas, less, gaps := 0, 0, 0
	n := numbers{state: 33}
	for range 600 {
		area := n.from(0, 200)
		w := api.Wheel{Full: n.from(10, 100), Read: n.from(0, 1), Slip: n.from(0, 2), Skew: n.from(0, 3), Guess: n.around(area, 40)}
		made := n.walks(w, area, n.from(-w.Skew, w.Skew))
		bound, e := wheels.Bound(w, made)
		if e != api.OK {
			t.Fatalf("Bound of %+v, %+v: %d", w, made, e)
		}
		all, e := wheels.Areas(w, made)
		if e != api.OK {
			t.Fatalf("Areas of %+v, %+v: %d", w, made, e)
		}
		if len(all) < bound.High-bound.Low+1 {
			gaps++
		}
		b := n.book(n.from(1, 3), 1)
		if many(t, b) == 0 || many(t, b)*(bound.High-bound.Low+1) > api.MaxTruths || len(b.Measures) > 10 {
			continue
		}
		b.Fields = append(b.Fields, field(99, 9, 0))
		if rods.Check(b) != api.OK {
			continue
		}
		wheeled := measured(b, api.Measure{Field: 99, Area: bound})
		share, e := rods.Share(wheeled, 99)
		if e != api.OK {
			t.Fatalf("Share of %+v: %d", wheeled, e)
		}
		before := doubt(t, wheeled)
		for _, area := range all {
			just := measured(b, measure(99, area, area))
			s, e := rods.Share(just, 99)
			after := doubt(t, just)
			if e != api.OK || !inside(s, share) || after > before {
				t.Errorf("%+v: Share with %d = %v, %d, not in %v; Doubt %d, before %d", wheeled, area, s, e, share, after, before)
			}
			areas++
			if after < before {
				less++
			}
		}
	}
	if areas < 1000 || less < 500 || gaps < 50 {
		t.Errorf("cases: %d, %d, %d", areas, less, gaps)
	}
}
