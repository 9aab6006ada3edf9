package trials_test

import (
	"slices"
	"testing"

	"knurl/api"
	"knurl/trials"
	"knurl/wheels"
)

func within(n int, s api.Span) bool { return s.Low <= n && n <= s.High }

// inside returns whether a span is in another one.
func inside(a, b api.Span) bool { return within(a.Low, b) && within(a.High, b) }

// among returns whether all numbers of a list are in another one.
func among(a, b []int) bool {
	return !slices.ContainsFunc(a, func(n int) bool { return !slices.Contains(b, n) })
}

// answers is what there is to know of a trial; all zero values if there is no truth.
type answers struct {
	many          int
	gains, skews  []int
	errs, seen    api.Span
	real          []int
	certain       int
	fewest        int
	decide, needs []int
	decided       api.Errno
}

func askAll(t *testing.T, x api.Trial, c api.Class, area, seen int) answers {
	t.Helper()
	var a answers
	e := make([]api.Errno, 7)
	a.many, e[0] = trials.Many(x)
	a.gains, e[1] = trials.Gains(x)
	a.skews, e[2] = trials.Skews(x)
	a.errs, e[3] = trials.Errs(x, area)
	a.seen, e[4] = trials.Seen(x, area)
	a.real, e[5] = trials.Real(x, seen)
	a.certain, e[6] = trials.Certify(x, c)
	if slices.ContainsFunc(e, func(f api.Errno) bool { return f != e[0] }) || e[0] != api.OK && e[0] != api.ErrNone {
		t.Errorf("errors %v of %+v", e, x)
	}
	a.fewest, a.decided = trials.Fewest(x, c)
	d, e1 := trials.Decide(x, c)
	n, e2 := trials.Needed(x, c)
	if e1 != a.decided || e2 != a.decided {
		t.Errorf("Fewest: %d; Decide: %d; Needed: %d; %+v", a.decided, e1, e2, x)
	}
	a.decide, a.needs = d, n
	return a
}

// P9.11.
func TestEachTruth(t *testing.T) {
	found := map[int]int{}
	small(21, 300, func(n *numbers, x api.Trial) {
		k := tried(x, isRight)
		c, area := n.class(k), n.area()
		for _, y := range k {
			if n.from(0, len(k)) > 5 {
				continue
			}
			seen := seenArea(area, y.gain)
			a := askAll(t, x, c, area, seen)
			if !slices.Contains(a.gains, y.gain) || !slices.Contains(a.skews, y.skew) || !within(y.err(area), a.errs) || !within(seen, a.seen) || !slices.Contains(a.real, area) {
				t.Errorf("%+v: %+v is not in %+v", x, y, a)
			}
			errs := y.err(c.Size) > c.Most
			if a.certain == api.Surely && errs || a.certain == api.Never && !errs {
				t.Errorf("%+v, %+v: %+v errs: %t; Certify = %d", x, c, y, errs, a.certain)
			}
			found[a.certain]++
		}
	})
	if found[api.Surely] < 80 || found[api.Never] < 80 || found[api.Perhaps] < 80 {
		t.Errorf("cases: %v", found)
	}
}

// P9.12: with one more test.
func TestOneMoreTest(t *testing.T) {
	less, same, sure := 0, 0, 0
	small(22, 800, func(n *numbers, x api.Trial) {
		k := tried(x, isNear)
		if len(k) == 0 || len(x.Tests) == api.MaxTests {
			return
		}
		c, area := n.class(k), n.area()
		y := k[n.from(0, len(k)-1)]
		more := x
		more.Tests = append(slices.Clone(x.Tests), n.test(x.Wheel, y.gain, y.skew, n.from(0, 3)))
		if truths(t, more) == 0 {
			return
		}
		a, b := askAll(t, x, c, area, area), askAll(t, more, c, area, area)
		if b.many > a.many || !inside(b.errs, a.errs) || !inside(b.seen, a.seen) || !among(b.gains, a.gains) || !among(b.skews, a.skews) || !among(b.real, a.real) {
			t.Errorf("%+v: %+v; with one more test: %+v", x, a, b)
		}
		if a.certain != api.Perhaps && b.certain != a.certain {
			t.Errorf("%+v: %d; with one more test: %d", x, a.certain, b.certain)
		}
		if b.many < a.many {
			less++
		} else {
			same++
		}
		if a.certain != api.Perhaps {
			sure++
		}
	})
	if less < 100 || same < 50 || sure < 100 {
		t.Errorf("cases: %d, %d, %d", less, same, sure)
	}
}

// P9.12: with a greater Gain.
func TestGreaterGain(t *testing.T) {
	more, equal := 0, 0
	small(23, 500, func(n *numbers, x api.Trial) {
		area := n.area()
		a := askAll(t, x, class(0, 0), area, area)
		x.Gain = n.from(x.Gain, api.MaxGain)
		b := askAll(t, x, class(0, 0), area, area)
		if a.many > b.many || !among(a.gains, b.gains) || !among(a.skews, b.skews) || !among(a.real, b.real) || a.many > 0 && (!inside(a.errs, b.errs) || !inside(a.seen, b.seen)) {
			t.Errorf("%+v: %+v; with a less Gain: %+v", x, b, a)
		}
		if a.many < b.many {
			more++
		} else if a.many > 0 {
			equal++
		}
	})
	if more < 100 || equal < 100 {
		t.Errorf("cases: %d, %d", more, equal)
	}
}

// P9.13.
func TestClasses(t *testing.T) {
	found := map[int]int{}
	small(24, 800, func(n *numbers, x api.Trial) {
		k := tried(x, isNear)
		if len(k) == 0 {
			return
		}
		c := n.class(k)
		errs, e := trials.Errs(x, c.Size)
		certain, f := trials.Certify(x, c)
		if e != api.OK || f != api.OK || (certain == api.Surely) != (errs.High <= c.Most) || (certain == api.Never) != (errs.Low > c.Most) {
			t.Errorf("%+v, %+v: Errs = %v, %d; Certify = %d, %d", x, c, errs, e, certain, f)
		}
		found[certain]++
		c.Most = n.from(c.Most, c.Most+n.from(0, 40))
		if later, e := trials.Certify(x, c); certain == api.Surely && later != api.Surely || e != api.OK {
			t.Errorf("%+v, %+v: Certify = %d, %d; with a less Most %d", x, c, later, e, certain)
		}
	})
	if found[api.Surely] < 100 || found[api.Never] < 100 || found[api.Perhaps] < 100 {
		t.Errorf("cases: %v", found)
	}
}

// P9.14.
func TestFewest(t *testing.T) {
	found := map[int]int{}
	small(25, 500, func(n *numbers, x api.Trial) {
		k := tried(x, isNear)
		if len(k) == 0 {
			return
		}
		c := n.class(k)
		a := askAll(t, x, c, 0, 0)
		if (a.decided == api.OK) != (a.certain != api.Perhaps) {
			t.Errorf("%+v, %+v: Certify = %d, Fewest: %d", x, c, a.certain, a.decided)
		}
		for _, l := range some(x) {
			certain, e := trials.Certify(just(x, l...), c)
			if e != api.OK || certain != api.Perhaps && (certain != a.certain || a.decided != api.OK || len(l) < a.fewest) {
				t.Errorf("%+v, %+v: %v: %d, %d; all: %+v", x, c, l, certain, e, a)
			}
			if a.decided == api.OK && slices.Equal(l, a.decide) && certain == api.Perhaps {
				t.Errorf("%+v, %+v: Decide = %v does not decide", x, c, l)
			}
		}
		if len(a.decide) != a.fewest || !slices.IsSorted(a.decide) || !slices.IsSorted(a.needs) || !among(a.needs, a.decide) {
			t.Errorf("%+v, %+v: Fewest %d, Decide %v, Needed %v", x, c, a.fewest, a.decide, a.needs)
		}
		if a.decided == api.OK {
			found[a.fewest]++
		}
	})
	if found[0] < 40 || found[1] < 40 || found[2] < 5 {
		t.Errorf("cases: %v", found)
	}
}

// P9.15.
func TestOrder(t *testing.T) {
	found := 0
	small(26, 600, func(n *numbers, x api.Trial) {
		k := tried(x, isNear)
		if len(x.Tests) == 0 {
			return
		}
		c, area := n.class(k), n.area()
		seen := n.seen()
		a := askAll(t, x, c, area, seen)
		turned := copied(x)
		for i := range turned.Tests {
			j := n.from(0, i)
			turned.Tests[i], turned.Tests[j] = turned.Tests[j], turned.Tests[i]
		}
		sameButTests(t, x, a, askAll(t, turned, c, area, seen))
		if len(x.Tests) < api.MaxTests {
			twice := copied(x)
			twice.Tests = slices.Insert(twice.Tests, n.from(0, len(x.Tests)), x.Tests[n.from(0, len(x.Tests)-1)])
			sameButTests(t, x, a, askAll(t, twice, c, area, seen))
		}
		if a.decided == api.OK && a.fewest > 0 {
			found++
		}
	})
	if found < 50 {
		t.Errorf("cases: %d", found)
	}
}

// sameButTests compares all but lists of tests, whose numbers are others.
func sameButTests(t *testing.T, x api.Trial, a, b answers) {
	t.Helper()
	if a.many != b.many || !slices.Equal(a.gains, b.gains) || !slices.Equal(a.skews, b.skews) || a.fewest != b.fewest || a.decided != b.decided || a.errs != b.errs || a.seen != b.seen || !slices.Equal(a.real, b.real) || a.certain != b.certain {
		t.Errorf("%+v: %+v; with other tests: %+v", x, a, b)
	}
}

// P9.16: with an area of 0 the gain does not matter.
func TestWithoutArea(t *testing.T) {
	found := 0
	small(27, 600, func(n *numbers, x api.Trial) {
		if skews, e := trials.Skews(x); e == api.OK {
			var errs []int
			for _, skew := range skews {
				errs = append(errs, max(skew, -skew))
			}
			s, e := trials.Errs(x, 0)
			same(t, "Errs of 0", s, e, span(slices.Min(errs), slices.Max(errs)), api.OK)
			s, e = trials.Seen(x, 0)
			same(t, "Seen of 0", s, e, span(0, 0), api.OK)
		}
		x.Tests = []api.Test{n.test(x.Wheel, 0, n.from(-x.Wheel.Skew, x.Wheel.Skew), n.from(0, 3))}
		x.Tests[0].Area = 0
		var all []int
		for gain := -x.Gain; gain <= x.Gain; gain++ {
			all = append(all, gain)
		}
		if l, e := trials.Gains(x); e == api.OK {
			sameList(t, "Gains", l, e, all, api.OK)
			found++
		}
	})
	if found < 100 {
		t.Errorf("cases: %d", found)
	}
}

// pinned returns a trial of which all truths have one gain: its area is so great that each gain shows something else.
func pinned(gain int) api.Trial {
	w := api.Wheel{Full: api.MaxFull, Skew: 3}
	return api.Trial{Wheel: w, Gain: api.MaxGain, Tests: []api.Test{test(api.MaxFigure, walk(1, 1, 0, 0, seenArea(api.MaxFigure, gain)))}}
}

// P9.16 and the terms: what is seen with each gain, rounded down; a greater area is not seen as less.
func TestSeenWithEachGain(t *testing.T) {
	areas := []int{0, 1, 2, 19, 20, 21, 39, 40, 41, 99, 100, 101, 499, 500, 501, 999, 1000, 1001, 1999, 2000, 8999, 9000}
	for gain := -api.MaxGain; gain <= api.MaxGain; gain++ {
		x, before := pinned(gain), 0
		l, e := trials.Gains(x)
		sameList(t, "Gains", l, e, []int{gain}, api.OK)
		for _, area := range areas {
			s, e := trials.Seen(x, area)
			seen := seenArea(area, gain)
			same(t, "Seen", s, e, span(seen, seen), api.OK)
			if seen < before {
				t.Errorf("%d is seen as %d with the gain %d, a lesser area as %d", area, seen, gain, before)
			}
			before = seen
		}
	}
}

// What is seen is rounded down, also below 0: of 1 a thousandth less is 0.
func TestRounding(t *testing.T) {
	for _, y := range []struct{ gain, area, seen int }{{-1, 1, 0}, {-1, 500, 499}, {-1, 1000, 999}, {-1, 1001, 999}, {-50, 10, 9}, {-50, 20, 19}, {-50, 21, 19}, {1, 999, 999}, {1, 1000, 1001}, {50, 19, 19}, {50, 20, 21}, {50, 9000, 9450}, {-50, 9000, 8550}} {
		s, e := trials.Seen(pinned(y.gain), y.area)
		same(t, "Seen", s, e, span(y.seen, y.seen), api.OK)
		l, e := trials.Real(pinned(y.gain), y.seen)
		if !slices.Contains(l, y.area) || e != api.OK {
			t.Errorf("Real of %d with the gain %d = %v, %d; want %d among them", y.seen, y.gain, l, e, y.area)
		}
	}
	l, e := trials.Real(pinned(-1), 999)
	sameList(t, "Real of 999 with the gain -1", l, e, []int{1000, 1001}, api.OK)
	l, e = trials.Real(pinned(50), 20)
	sameList(t, "Real of 20 with the gain 50", l, e, nil, api.OK)
	l, e = trials.Real(pinned(50), 9450)
	sameList(t, "Real of 9450 with the gain 50", l, e, []int{9000}, api.OK)
	l, e = trials.Real(pinned(0), 9001)
	sameList(t, "Real of 9001 with the gain 0", l, e, nil, api.OK)
}

// P0.7.
func TestCertifiedInstrument(t *testing.T) {
	walks, several := 0, 0
	try := func(n *numbers, x api.Trial) {
		k := tried(x, isNear)
		if len(k) == 0 {
			return
		}
		for range 3 {
			y, area := k[n.from(0, len(k)-1)], n.area()
			seen := seenArea(area, y.gain)
			w := x.Wheel
			guess, e := trials.Seen(x, area)
			w.Guess = guess
			made := []api.Walk{n.walk(w, seen, y.skew)}
			areas, e1 := wheels.Areas(w, made)
			skews, e2 := wheels.Skews(w, made)
			if e != api.OK || e1 != api.OK || e2 != api.OK || !slices.Contains(areas, seen) || !slices.Contains(skews, y.skew) {
				t.Errorf("%+v, %+v, %d: Seen = %v, %d; Areas = %v, %d; Skews = %v, %d", x, y, area, guess, e, areas, e1, skews, e2)
			}
			if l, e := trials.Real(x, seen); e != api.OK || !slices.Contains(l, area) {
				t.Errorf("%+v, %+v: Real of %d = %v, %d; want %d", x, y, seen, l, e, area)
			}
			walks++
			if len(areas) > 1 {
				several++
			}
		}
	}
	small(28, 200, try)
	large(29, 20, try)
	if walks < 300 || several < 150 {
		t.Errorf("cases: %d, %d", walks, several)
	}
}
