package trials_test

import (
	"slices"
	"testing"

	"knurl/api"
	"knurl/trials"
)

// P9.1.
func TestCheck(t *testing.T) {
	for name, x := range map[string]api.Trial{"T": trialT(), "T0": trialT0(), "no truth": trialN(), "widest": widest(), "without tests": just(trialT()), "no gain": {Wheel: wheelW()}} {
		if e := trials.Check(x); e != api.OK {
			t.Errorf("Check of %s: %d", name, e)
		}
	}
	for name, x := range badNumbers() {
		if e := trials.Check(x); e != api.ErrTrial {
			t.Errorf("Check of %s: %d", name, e)
		}
	}
	for name, change := range badWheels() {
		for _, x := range []api.Trial{trialT(), trialT0(), just(trialT())} {
			change(&x)
			if e := trials.Check(x); e != api.ErrWheel {
				t.Errorf("Check of %s, %d tests: %d", name, len(x.Tests), e)
			}
		}
	}
	for name, change := range badWalks() {
		for _, x := range []api.Trial{trialT(), trialT0()} {
			change(&x)
			if e := trials.Check(x); e != api.ErrWalk {
				t.Errorf("Check of %s, %d tests: %d", name, len(x.Tests), e)
			}
		}
	}
}

func TestExamples(t *testing.T) {
	x, x0 := trialT(), trialT0()
	n, e := trials.Many(x0)
	same(t, "Many of T0", n, e, 5, api.OK)
	l, e := trials.Gains(x0)
	sameList(t, "Gains of T0", l, e, []int{0, 1, 2, 3, 4}, api.OK)
	l, e = trials.Skews(x0)
	sameList(t, "Skews of T0", l, e, []int{-2, -1, 0, 1, 2}, api.OK)
	n, e = trials.Many(x)
	same(t, "Many of T", n, e, 1, api.OK)
	l, e = trials.Gains(x)
	sameList(t, "Gains of T", l, e, []int{3}, api.OK)
	l, e = trials.Skews(x)
	sameList(t, "Skews of T", l, e, []int{-1}, api.OK)
	s, e := trials.Errs(x0, 1000)
	same(t, "Errs of T0, 1000", s, e, span(2, 6), api.OK)
	s, e = trials.Errs(x, 1000)
	same(t, "Errs of T, 1000", s, e, span(4, 4), api.OK)
	s, e = trials.Seen(x0, 2000)
	same(t, "Seen of T0, 2000", s, e, span(2000, 2008), api.OK)
	l, e = trials.Real(x, 2006)
	sameList(t, "Real of T, 2006", l, e, []int{2000}, api.OK)
}

func TestExamplesOfClasses(t *testing.T) {
	x, x0 := trialT(), trialT0()
	for _, y := range []struct {
		trial      api.Trial
		most, want int
	}{{x0, 4, api.Perhaps}, {x0, 6, api.Surely}, {x0, 1, api.Never}, {x, 4, api.Surely}, {x, 3, api.Never}} {
		n, e := trials.Certify(y.trial, class(1000, y.most))
		same(t, "Certify", n, e, y.want, api.OK)
	}
	n, e := trials.Fewest(x, class(1000, 4))
	same(t, "Fewest of T, Most 4", n, e, 2, api.OK)
	l, e := trials.Needed(x, class(1000, 4))
	sameList(t, "Needed of T, Most 4", l, e, nil, api.OK)
	n, e = trials.Fewest(x, class(1000, 5))
	same(t, "Fewest of T, Most 5", n, e, 1, api.OK)
	l, e = trials.Needed(x, class(1000, 5))
	sameList(t, "Needed of T, Most 5", l, e, []int{2}, api.OK)
	l, e = trials.Decide(x, class(1000, 4))
	if e != api.OK || !slices.ContainsFunc([][]int{{0, 1}, {0, 2}, {1, 2}}, func(d []int) bool { return slices.Equal(l, d) }) {
		t.Errorf("Decide of T, Most 4 = %v, %d", l, e)
	}
}

// P9.2 to P9.10: compared with everything tried one by one, straight from the definitions.
func TestTried(t *testing.T) {
	found := map[string]int{}
	small(1, 1500, func(n *numbers, x api.Trial) { compare(t, n, x, isRight, found) })
	enough(t, found)
}

// P9.2 to P9.10 with the greatest numbers: what can be with each test is worked out in another way.
func TestTriedLarge(t *testing.T) {
	found := map[string]int{}
	large(2, 180, func(n *numbers, x api.Trial) { compare(t, n, x, isNear, found) })
	if found["open"] < 15 || found["passed"] < 15 || found["failed"] < 15 || found["decided by one test or more"] < 15 {
		t.Errorf("cases: %v", found)
	}
}

// The two ways in which the tests tell whether a walk is right are the same.
func TestRightAndNear(t *testing.T) {
	n := numbers{state: 3}
	found := map[bool]int{}
	for range 20000 {
		w := n.wheel()
		area, skew := n.from(0, 9450), n.from(-w.Skew, w.Skew)
		k := n.walk(w, area+n.from(-4, 4), skew)
		right := isRight(w, k, area, skew)
		if right != isNear(w, k, area, skew) {
			t.Fatalf("%+v, %v, %d, %d: %t", w, k, area, skew, right)
		}
		found[right]++
	}
	if found[true] < 3000 || found[false] < 3000 {
		t.Errorf("cases: %v", found)
	}
}

func enough(t *testing.T, found map[string]int) {
	t.Helper()
	for name, least := range map[string]int{
		"no truth": 100, "one truth": 50, "several truths": 500, "open": 100, "passed": 100, "failed": 100, "decided by no test": 50,
		"decided by one test or more": 100, "decided by two tests or more": 20, "all can be needed": 50, "not all are needed": 20, "several areas": 50, "no area": 50,
	} {
		if found[name] < least {
			t.Errorf("%s: %d cases of %d", name, found[name], least)
		}
	}
}

func compare(t *testing.T, n *numbers, x api.Trial, right func(w api.Wheel, k api.Walk, area, skew int) bool, found map[string]int) {
	t.Helper()
	k := tried(x, right)
	count, e := trials.Many(x)
	same(t, "Many", count, e, len(k), k.error())
	l, e := trials.Gains(x)
	sameList(t, "Gains", l, e, k.each(func(y pair) int { return y.gain }), k.error())
	l, e = trials.Skews(x)
	sameList(t, "Skews", l, e, k.each(func(y pair) int { return y.skew }), k.error())
	area := n.area()
	s, e := trials.Errs(x, area)
	same(t, "Errs", s, e, k.span(func(y pair) int { return y.err(area) }), k.error())
	s, e = trials.Seen(x, area)
	same(t, "Seen", s, e, k.span(func(y pair) int { return seenArea(area, y.gain) }), k.error())
	seen := n.seen()
	l, e = trials.Real(x, seen)
	sameList(t, "Real", l, e, k.real(seen), k.error())
	switch {
	case len(k) == 0:
		found["no truth"]++
	case len(k) == 1:
		found["one truth"]++
	default:
		found["several truths"]++
	}
	if len(l) > 1 {
		found["several areas"]++
	}
	if len(k) > 0 && len(l) == 0 {
		found["no area"]++
	}
	compareClass(t, x, n.class(k), k, eachTest(x, right), found)
}

func compareClass(t *testing.T, x api.Trial, c api.Class, k known, can []known, found map[string]int) {
	t.Helper()
	certain, e := trials.Certify(x, c)
	same(t, "Certify", certain, e, k.certify(c), k.error())
	fewest, e := trials.Fewest(x, c)
	d, e1 := trials.Decide(x, c)
	needed, e2 := trials.Needed(x, c)
	if len(k) == 0 || certain == api.Perhaps {
		same(t, "Fewest", fewest, e, 0, api.ErrNone)
		sameList(t, "Decide", d, e1, nil, api.ErrNone)
		sameList(t, "Needed", needed, e2, nil, api.ErrNone)
		if certain == api.Perhaps {
			found["open"]++
		}
		return
	}
	best := deciding(x, c, can)
	same(t, "Fewest", fewest, e, len(best[0]), api.OK)
	if e1 != api.OK || !slices.ContainsFunc(best, func(l []int) bool { return slices.Equal(l, d) }) {
		t.Errorf("Decide = %v, %d; want one of %v", d, e1, best)
	}
	sameList(t, "Needed", needed, e2, inAll(best), api.OK)
	found[map[int]string{api.Surely: "passed", api.Never: "failed"}[certain]]++
	count := func(name string, is bool) {
		if is {
			found[name]++
		}
	}
	count("decided by no test", fewest == 0)
	count("decided by one test or more", fewest > 0)
	count("decided by two tests or more", fewest > 1)
	count("all can be needed", fewest > 0 && len(needed) == fewest)
	count("not all are needed", len(needed) < fewest)
}
