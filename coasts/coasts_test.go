package coasts_test

import (
	"slices"
	"testing"

	"knurl/api"
	"knurl/coasts"
)

// P10.1.
func TestCheck(t *testing.T) {
	good := map[string]api.Coast{"K": coastK(), "no truth": coastN(), "bends alone": coastB(), "widest": widest()}
	for name, change := range map[string]func(c *api.Coast){
		"two bends":          func(c *api.Coast) { c.Bends, c.Reports = c.Bends[3:], nil },
		"12 bends":           func(c *api.Coast) { c.Bends = append(c.Bends, (&numbers{}).bends(7, 9)...) },
		"far ends":           func(c *api.Coast) { c.Bends[0], c.Bends[1] = point(200, -200), point(-200, 200) },
		"equal bends apart":  func(c *api.Coast) { c.Bends[2] = c.Bends[0] },
		"just X is equal":    func(c *api.Coast) { c.Bends[1].X = 0 },
		"just Y is equal":    func(c *api.Coast) { c.Bends[1].Y = 0 },
		"opening 1":          func(c *api.Coast) { c.Dividers[0] = span(1, 1) },
		"opening 60":         func(c *api.Coast) { c.Dividers[1] = span(60, 60) },
		"no reports":         func(c *api.Coast) { c.Reports = nil },
		"no dividers at all": func(c *api.Coast) { c.Dividers, c.Reports = nil, nil },
		"Steps 12":           func(c *api.Coast) { c.Reports[0] = report(1, 3, 4, 12) },
		"Wrong 8":            func(c *api.Coast) { c.Wrong = 8 },
	} {
		c := coastK()
		change(&c)
		good[name] = c
	}
	for name, c := range good {
		if e := coasts.Check(c); e != api.OK {
			t.Errorf("Check of %s: %d", name, e)
		}
	}
	for name, c := range badCoasts() {
		if e := coasts.Check(c); e != api.ErrCoast {
			t.Errorf("Check of %s: %d", name, e)
		}
	}
	if n := len(badCoasts()["13 bends"].Bends); n != 13 {
		t.Errorf("%d bends", n)
	}
}

func TestExamples(t *testing.T) {
	c := coastK()
	for _, x := range []struct {
		opening int
		want    []int
	}{{5, []int{4}}, {6, []int{2, 3, 4}}, {12, []int{1, 2, 3, 4}}} {
		l, e := coasts.Counts(c, x.opening, 0, 4)
		sameList(t, "Counts of K", l, e, x.want, api.OK)
	}
	l, e := coasts.Walk(c, 6, 0, 4)
	sameList(t, "Walk of K, 6", l, e, []int{0, 2, 4}, api.OK)
	for _, x := range []struct{ steps, want int }{{2, 6}, {1, 12}, {4, 5}} {
		n, e := coasts.Opening(c, 0, 4, x.steps)
		same(t, "Opening of K", n, e, x.want, api.OK)
	}
	n, e := coasts.Many(c)
	same(t, "Many of K", n, e, 8, api.OK)
	l, e = coasts.Openings(c, 0)
	sameList(t, "Openings of K, 0", l, e, []int{6, 7}, api.OK)
	l, e = coasts.Openings(c, 1)
	sameList(t, "Openings of K, 1", l, e, []int{10, 11, 12, 13}, api.OK)
	for _, x := range []struct {
		opening, want int
		e             api.Errno
	}{{5, 20, api.OK}, {6, 12, api.OK}, {7, 14, api.OK}, {12, 12, api.OK}, {4, 0, api.ErrNone}} {
		n, e := coasts.Length(c, x.opening)
		same(t, "Length of K", n, e, x.want, x.e)
	}
	n, e = coasts.Longer(c, 0, 1)
	same(t, "Longer of K, 0 1", n, e, api.Perhaps, api.OK)
	n, e = coasts.Longer(c, 1, 0)
	same(t, "Longer of K, 1 0", n, e, api.Perhaps, api.OK)
}

// What an opening just reaches: the square of the distance is the square of the opening, or 1 more.
func TestJustReached(t *testing.T) {
	for _, x := range []struct {
		at   api.Point
		want int
		e    api.Errno
	}{
		{point(1, 0), 1, api.OK}, {point(1, 1), 2, api.OK}, {point(0, -5), 5, api.OK}, {point(3, 4), 5, api.OK}, {point(-5, 1), 6, api.OK}, {point(5, -12), 13, api.OK},
		{point(13, 1), 14, api.OK}, {point(-36, 48), 60, api.OK}, {point(60, 0), 60, api.OK}, {point(0, 60), 60, api.OK}, {point(60, 1), 0, api.ErrNone}, {point(43, 42), 0, api.ErrNone},
		{point(42, 42), 60, api.OK}, {point(61, 0), 0, api.ErrNone}, {point(200, -200), 0, api.ErrNone},
	} {
		c := api.Coast{Bends: []api.Point{point(0, 0), x.at}, Dividers: []api.Span{span(1, 60)}, Reports: []api.Report{report(0, 0, 1, 1)}}
		n, e := coasts.Opening(c, 0, 1, 1)
		same(t, "Opening", n, e, x.want, x.e)
		n, e = coasts.Many(c)
		if x.e == api.OK {
			same(t, "Many", n, e, 61-x.want, api.OK)
		} else {
			same(t, "Many", n, e, 0, api.ErrNone)
		}
		for opening := 1; opening <= 60; opening++ {
			var want []int
			wantE := api.ErrNone
			if x.e == api.OK && opening >= x.want {
				want, wantE = []int{1}, api.OK
			}
			l, e := coasts.Counts(c, opening, 0, 1)
			sameList(t, "Counts", l, e, want, wantE)
		}
	}
}

// A walk can be without some number of steps between the least and the greatest one.
func TestGapOfCounts(t *testing.T) {
	c := api.Coast{Bends: []api.Point{point(0, 0), point(60, 0), point(0, 1), point(-60, 0), point(0, 2), point(60, 2), point(0, 3)}}
	l, e := coasts.Counts(c, 1, 0, 6)
	sameList(t, "Counts, 1", l, e, []int{3}, api.OK)
	c.Bends = []api.Point{point(0, 0), point(0, 10), point(10, 10), point(10, 0)}
	l, e = coasts.Counts(c, 10, 0, 3)
	sameList(t, "Counts, 10", l, e, []int{1, 3}, api.OK)
	l, e = coasts.Walk(c, 10, 0, 3)
	sameList(t, "Walk, 10", l, e, []int{0, 3}, api.OK)
	n, e := coasts.Opening(c, 0, 3, 2)
	same(t, "Opening, 2 steps", n, e, 10, api.OK)
	c.Dividers, c.Reports = []api.Span{span(10, 14)}, []api.Report{report(0, 0, 3, 2)}
	l, e = coasts.Openings(c, 0)
	sameList(t, "Openings", l, e, nil, api.ErrNone)
	c.Dividers[0].High = 15
	l, e = coasts.Openings(c, 0)
	sameList(t, "Openings", l, e, []int{15}, api.OK)
}

// P10.10: an opening that gives no length is not greater, and no other one is greater than it.
func TestLongerWithoutLength(t *testing.T) {
	for _, x := range []struct {
		a, b   api.Span
		ab, ba int
	}{
		{span(4, 4), span(5, 5), api.Never, api.Never},
		{span(1, 4), span(1, 4), api.Never, api.Never},
		{span(4, 5), span(6, 6), api.Perhaps, api.Never},
		{span(5, 5), span(6, 9), api.Surely, api.Never},
		{span(5, 5), span(6, 10), api.Perhaps, api.Never},
		{span(5, 5), span(6, 11), api.Perhaps, api.Perhaps},
		{span(5, 5), span(12, 19), api.Surely, api.Never},
		{span(5, 5), span(12, 20), api.Perhaps, api.Never},
		{span(5, 5), span(10, 10), api.Never, api.Never},
		{span(3, 5), span(21, 30), api.Never, api.Perhaps},
		{span(5, 5), span(21, 30), api.Never, api.Surely},
	} {
		c := coastB()
		c.Dividers = []api.Span{x.a, x.b}
		n, e := coasts.Longer(c, 0, 1)
		same(t, "Longer 0 1", n, e, x.ab, api.OK)
		n, e = coasts.Longer(c, 1, 0)
		same(t, "Longer 1 0", n, e, x.ba, api.OK)
		for a := range 2 {
			n, e = coasts.Longer(c, a, a)
			same(t, "Longer of the same", n, e, api.Never, api.OK)
		}
	}
}

// P10.8: a report of a third pair of dividers takes the faults that others would need.
func TestFaultsAreShared(t *testing.T) {
	c := coastK()
	c.Dividers = append(c.Dividers, span(6, 6))
	c.Reports = []api.Report{report(0, 0, 4, 4), report(1, 0, 4, 3), report(0, 0, 2, 1), report(0, 2, 4, 2), report(2, 0, 4, 1)}
	for wrong, x := range []struct {
		many           int
		first, strange []int
	}{
		{0, nil, nil},
		{8, []int{6, 7}, []int{4}},
		{12, []int{5, 6, 7}, []int{4}},
		{12, []int{5, 6, 7}, []int{4}},
	} {
		c.Wrong = wrong
		want := api.OK
		if x.many == 0 {
			want = api.ErrNone
		}
		n, e := coasts.Many(c)
		same(t, "Many", n, e, x.many, want)
		l, e := coasts.Openings(c, 0)
		sameList(t, "Openings", l, e, x.first, want)
		l, e = coasts.Strange(c)
		sameList(t, "Strange", l, e, x.strange, want)
		n, e = coasts.Fewest(c)
		same(t, "Fewest", n, e, 1, api.OK)
	}
	c.Wrong = 1
	c.Dividers[0].High = 5
	l, e := coasts.Strange(c)
	sameList(t, "Strange", l, e, nil, api.ErrNone)
	c.Wrong = 2
	l, e = coasts.Strange(c)
	sameList(t, "Strange", l, e, []int{2, 4}, api.OK)
}

// P10.2 to P10.4: compared with each set of bends between, and with layers.
func TestTriedWalks(t *testing.T) {
	found := map[string]int{}
	try := func(n *numbers, c api.Coast) {
		for range 6 {
			from, to := n.stretch(c)
			compareWalks(t, c, n.opening(c), from, to, found)
			compareOpening(t, c, from, to, n.from(1, [...]int{3, api.MaxBends}[n.from(0, 1)]), found)
		}
	}
	small(1, 600, try)
	large(2, 300, try)
	for name, least := range map[string]int{"no walk": 500, "one number": 500, "several numbers": 500, "a gap": 10, "no opening": 200, "not the greatest opening": 500, "more than one step": 500} {
		if found[name] < least {
			t.Errorf("%s: %d cases of %d", name, found[name], least)
		}
	}
}

func compareWalks(t *testing.T, c api.Coast, opening, from, to int, found map[string]int) {
	t.Helper()
	want, other := tried(c, opening, from, to), layered(c, opening, from, to)
	if !slices.Equal(want, other) {
		t.Fatalf("tried: %v, layered: %v", want, other)
	}
	l, e := coasts.Counts(c, opening, from, to)
	walk, f := coasts.Walk(c, opening, from, to)
	switch len(want) {
	case 0:
		sameList(t, "Counts", l, e, nil, api.ErrNone)
		sameList(t, "Walk", walk, f, nil, api.ErrNone)
		found["no walk"]++
		return
	case 1:
		found["one number"]++
	default:
		found["several numbers"]++
	}
	sameList(t, "Counts", l, e, want, api.OK)
	if f != api.OK || !isWalk(c, opening, from, to, walk) || len(walk) != want[0]+1 {
		t.Errorf("%+v, %d, %d to %d: Walk = %v, %d", c, opening, from, to, walk, f)
	}
	if want[len(want)-1]-want[0] > len(want)-1 {
		found["a gap"]++
	}
}

func compareOpening(t *testing.T, c api.Coast, from, to, steps int, found map[string]int) {
	t.Helper()
	want, wantE := 0, api.ErrNone
	for opening := api.MaxOpening; opening > 0; opening-- {
		if l := layered(c, opening, from, to); len(l) > 0 && l[0] <= steps {
			want, wantE = opening, api.OK
			if l[0] > 1 {
				found["more than one step"]++
			}
		}
	}
	n, e := coasts.Opening(c, from, to, steps)
	same(t, "Opening", n, e, want, wantE)
	switch {
	case wantE != api.OK:
		found["no opening"]++
	case want < api.MaxOpening:
		found["not the greatest opening"]++
	}
}

// P10.5 to P10.10: compared with everything tried one by one, straight from the definitions.
func TestTried(t *testing.T) {
	found := map[string]int{}
	small(3, 4000, func(_ *numbers, c api.Coast) { compare(t, c, tried, found) })
	for name, least := range map[string]int{
		"no truth": 200, "one truth": 20, "several truths": 500, "not all openings": 200, "strange": 100, "none is strange": 300, "a fault": 300,
		"surely": 100, "never": 500, "perhaps": 200, "without length": 300, "with length": 1000,
	} {
		if found[name] < least {
			t.Errorf("%s: %d cases of %d", name, found[name], least)
		}
	}
}

// P10.5 to P10.10 with coasts of all sizes: what is right is worked out in another way.
func TestTriedLarge(t *testing.T) {
	found := map[string]int{}
	large(4, 600, func(_ *numbers, c api.Coast) { compare(t, c, layered, found) })
	for name, least := range map[string]int{"no truth": 20, "several truths": 80, "not all openings": 50, "strange": 20, "none is strange": 50, "surely": 10, "never": 50, "perhaps": 50} {
		if found[name] < least {
			t.Errorf("%s: %d cases of %d", name, found[name], least)
		}
	}
}

func compare(t *testing.T, c api.Coast, w ways, found map[string]int) {
	t.Helper()
	k := learn(c, w)
	count := func(name string, is bool) {
		if is {
			found[name]++
		}
	}
	n, e := coasts.Fewest(c)
	same(t, "Fewest", n, e, k.fewest, api.OK)
	n, e = coasts.Many(c)
	same(t, "Many", n, e, k.many, k.error())
	l, e := coasts.Strange(c)
	sameList(t, "Strange", l, e, k.strange(c), k.error())
	count("a fault", k.many > 0 && k.fewest > 0)
	count("no truth", k.many == 0)
	count("one truth", k.many == 1)
	count("several truths", k.many > 1)
	count("strange", len(l) > 0)
	count("none is strange", k.many > 0 && len(c.Reports) > 0 && len(l) == 0)
	for a, s := range c.Dividers {
		l, e := coasts.Openings(c, a)
		sameList(t, "Openings", l, e, k.list(a), k.error())
		count("not all openings", k.many > 0 && len(l) <= s.High-s.Low)
		for b := range c.Dividers {
			n, e := coasts.Longer(c, a, b)
			same(t, "Longer", n, e, k.longer(a, b), k.error())
			count("surely", n == api.Surely)
			count("never", n == api.Never)
			count("perhaps", n == api.Perhaps)
		}
		n, e := coasts.Length(c, s.Low)
		if want := w.length(c, s.Low); want > 0 {
			same(t, "Length", n, e, want, api.OK)
			found["with length"]++
		} else {
			same(t, "Length", n, e, 0, api.ErrNone)
			found["without length"]++
		}
	}
}
