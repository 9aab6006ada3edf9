package trials_test

import (
	"math"
	"slices"
	"testing"

	"knurl/api"
	"knurl/trials"
)

func span(low, high int) api.Span { return api.Span{Low: low, High: high} }

func walk(sense, side, inside, start, end int) api.Walk {
	return api.Walk{Sense: sense, Side: side, Inside: inside, Start: start, End: end}
}

func test(area int, l ...api.Walk) api.Test { return api.Test{Area: area, Walks: l} }

func class(size, most int) api.Class { return api.Class{Size: size, Most: most} }

// wheelW is W of the chapter's examples.
func wheelW() api.Wheel {
	return api.Wheel{Full: 100, Skew: 2, Guess: span(40, 60)}
}

// trialT and trialT0 are T and T0 of the chapter's examples.
func trialT() api.Trial {
	return api.Trial{Wheel: wheelW(), Gain: 20, Tests: []api.Test{
		test(1000, walk(1, 1, 0, 10, 12)), test(1000, walk(1, -1, 0, 0, 4)), test(2000, walk(-1, 1, 0, 50, 43)),
	}}
}

func trialT0() api.Trial {
	t := trialT()
	t.Tests = t.Tests[:1]
	return t
}

// trialN is one without a truth: two walks contradict each other.
func trialN() api.Trial {
	t := trialT()
	t.Tests[1].Walks = []api.Walk{walk(1, -1, 0, 0, 50)}
	return t
}

// widest is a trial with the greatest numbers, whose tests say nothing.
func widest() api.Trial {
	t := api.Trial{
		Wheel: api.Wheel{Full: api.MaxFull, Read: api.MaxRead, Slip: api.MaxSlip, Skew: api.MaxSkew, Circle: api.MaxCount, Guess: span(0, api.MaxCount), Wrong: api.MaxWalks},
		Gain:  api.MaxGain,
	}
	for range api.MaxTests {
		t.Tests = append(t.Tests, test(api.MaxFigure, slices.Repeat([]api.Walk{walk(-1, -1, 1, api.MaxFull-1, 0)}, api.MaxWalks)...))
	}
	return t
}

// copied returns a trial that shares no memory.
func copied(t api.Trial) api.Trial {
	t.Tests = slices.Clone(t.Tests)
	for i := range t.Tests {
		t.Tests[i].Walks = slices.Clone(t.Tests[i].Walks)
	}
	return t
}

// just returns a trial with some of the tests alone.
func just(t api.Trial, tests ...int) api.Trial {
	some := []api.Test{}
	for _, i := range tests {
		some = append(some, t.Tests[i])
	}
	t.Tests = some
	return t
}

// seenArea adds the area's gain, rounded down.
func seenArea(area, gain int) int {
	part := area * gain / 1000
	if area*gain < part*1000 {
		part--
	}
	return area + part
}

// isRight tries each slip and each error.
func isRight(w api.Wheel, k api.Walk, area, skew int) bool {
	for slip := 0; slip <= w.Slip; slip++ {
		for off := -2 * w.Read; off <= 2*w.Read; off++ {
			shown := k.Sense*(area-k.Inside*w.Circle-slip) + k.Side*skew + off
			if (k.End-k.Start-shown)%w.Full == 0 {
				return true
			}
		}
	}
	return false
}

// isNear tells the same by how far the readings are from what a walk without slip and error shows, counted backwards from the greatest difference.
func isNear(w api.Wheel, k api.Walk, area, skew int) bool {
	most := 2*w.Read + k.Sense*(area-k.Inside*w.Circle) + k.Side*skew
	if k.Sense == -1 {
		most += w.Slip
	}
	less := (most - k.End + k.Start) % w.Full
	if less < 0 {
		less += w.Full
	}
	return less <= w.Slip+4*w.Read
}

// pair is a gain and a skew.
type pair struct{ gain, skew int }

// err is the error at an area.
func (x pair) err(area int) int {
	off := seenArea(area, x.gain) - area
	return max(off, -off) + max(x.skew, -x.skew)
}

// known is all truths of a trial.
type known []pair

// tried returns all truths: each gain and each skew is tried with each test, a walk being told by right.
func tried(t api.Trial, right func(w api.Wheel, k api.Walk, area, skew int) bool) known {
	var truths known
	for gain := -t.Gain; gain <= t.Gain; gain++ {
		for skew := -t.Wheel.Skew; skew <= t.Wheel.Skew; skew++ {
			ok := true
			for _, x := range t.Tests {
				wrong := 0
				for _, k := range x.Walks {
					if !right(t.Wheel, k, seenArea(x.Area, gain), skew) {
						wrong++
					}
				}
				ok = ok && wrong <= t.Wheel.Wrong
			}
			if ok {
				truths = append(truths, pair{gain, skew})
			}
		}
	}
	return truths
}

// error is OK if there is a truth.
func (k known) error() api.Errno {
	if len(k) == 0 {
		return api.ErrNone
	}
	return api.OK
}

// each returns what is asked of each truth, each number once, ascending.
func (k known) each(ask func(pair) int) []int {
	var l []int
	for _, x := range k {
		l = append(l, ask(x))
	}
	slices.Sort(l)
	return slices.Compact(l)
}

// span returns the least and the greatest of what is asked of each truth.
func (k known) span(ask func(pair) int) api.Span {
	if len(k) == 0 {
		return api.Span{}
	}
	l := k.each(ask)
	return span(l[0], l[len(l)-1])
}

// certify counts the truths in which the error is greater than Most.
func (k known) certify(c api.Class) int {
	beyond := 0
	for _, x := range k {
		if x.err(c.Size) > c.Most {
			beyond++
		}
	}
	switch {
	case len(k) == 0:
		return 0
	case beyond == 0:
		return api.Surely
	case beyond == len(k):
		return api.Never
	}
	return api.Perhaps
}

// real tries each area.
func (k known) real(seen int) []int {
	gains := k.each(func(x pair) int { return x.gain })
	var l []int
	for area := 0; area <= api.MaxFigure; area++ {
		for _, gain := range gains {
			if seenArea(area, gain) == seen {
				l = append(l, area)
				break
			}
		}
	}
	return l
}

// some returns all lists of tests of a trial, ascending each.
func some(t api.Trial) [][]int {
	lists := [][]int{nil}
	for i := range t.Tests {
		for _, l := range lists {
			lists = append(lists, append(slices.Clone(l), i))
		}
	}
	return lists
}

// deciding returns all lists of as few tests as can be with which a class is not open; none if there are none. What can be with each test is in can.
func deciding(t api.Trial, c api.Class, can []known) [][]int {
	var best [][]int
	for _, l := range some(t) {
		k := tried(just(t), isNear)
		for _, i := range l {
			k = slices.DeleteFunc(k, func(x pair) bool { return !slices.Contains(can[i], x) })
		}
		if len(k) == 0 || k.certify(c) == api.Perhaps {
			continue
		}
		if len(best) > 0 && len(best[0]) > len(l) {
			best = nil
		}
		if len(best) == 0 || len(best[0]) == len(l) {
			best = append(best, l)
		}
	}
	return best
}

// eachTest returns for each test what can be with it alone.
func eachTest(t api.Trial, right func(w api.Wheel, k api.Walk, area, skew int) bool) []known {
	var l []known
	for i := range t.Tests {
		l = append(l, tried(just(t, i), right))
	}
	return l
}

// inAll returns the tests that are in all lists, ascending.
func inAll(lists [][]int) []int {
	l := slices.Clone(lists[0])
	for _, other := range lists {
		l = slices.DeleteFunc(l, func(i int) bool { return !slices.Contains(other, i) })
	}
	return l
}

// truths returns how many truths there are, also if there are none.
func truths(t *testing.T, x api.Trial) int {
	t.Helper()
	n, e := trials.Many(x)
	if e != api.OK && e != api.ErrNone {
		t.Fatalf("Many of %+v: %d", x, e)
	}
	return n
}

func sameList(t *testing.T, call string, got []int, e api.Errno, want []int, wantE api.Errno) {
	t.Helper()
	if !slices.Equal(got, want) || e != wantE {
		t.Errorf("%s = %v, %d; want %v, %d", call, got, e, want, wantE)
	}
}

func same[T comparable](t *testing.T, call string, got T, e api.Errno, want T, wantE api.Errno) {
	t.Helper()
	if got != want || e != wantE {
		t.Errorf("%s = %v, %d; want %v, %d", call, got, e, want, wantE)
	}
}

// numbers is a fixed sequence of numbers that follow no short rule.
type numbers struct{ state uint64 }

// from returns the next number, from low to high.
func (n *numbers) from(low, high int) int {
	n.state = n.state*6364136223846793005 + 1442695040888963407
	return low + int((n.state>>33)%uint64(high-low+1))
}

func (n *numbers) sign() int { return 2*n.from(0, 1) - 1 }

// wheel returns a valid wheel with small numbers; Full is sometimes less than what the other numbers add up to.
func (n *numbers) wheel() api.Wheel {
	return api.Wheel{
		Full: n.from(10, [...]int{20, 60, 1000, api.MaxFull}[n.from(0, 3)]), Read: max(0, n.from(-2, 2)), Slip: max(0, n.from(-2, 4)), Skew: max(0, n.from(-1, 4)),
		Circle: n.from(0, 50), Guess: span(n.from(0, 5), n.from(5, 9)), Wrong: max(0, n.from(-4, 2)),
	}
}

// walk returns one that is right for a seen area and a skew.
func (n *numbers) walk(w api.Wheel, seen, skew int) api.Walk {
	k := walk(n.sign(), n.sign(), n.from(0, 1), n.from(0, w.Full-1), 0)
	shown := k.Sense*(seen-k.Inside*w.Circle-n.from(0, w.Slip)) + k.Side*skew + n.from(-2*w.Read, 2*w.Read)
	k.End = ((k.Start+shown)%w.Full + w.Full) % w.Full
	return k
}

// area returns one that can be tested.
func (n *numbers) area() int {
	return n.from(0, [...]int{3, 100, 1100, 5000, api.MaxFigure}[n.from(0, 4)])
}

// test returns one of which the most walks are right for a gain and a skew.
func (n *numbers) test(w api.Wheel, gain, skew, walks int) api.Test {
	x := api.Test{Area: n.area()}
	for range walks {
		k := n.walk(w, seenArea(x.Area, gain), skew)
		if n.from(0, 20) == 0 {
			k.End = n.from(0, w.Full-1)
		}
		x.Walks = append(x.Walks, k)
	}
	return x
}

// trial returns a valid one whose tests the most often agree with one gain and one skew.
func (n *numbers) trial(w api.Wheel, most, walks int) api.Trial {
	t := api.Trial{Wheel: w, Gain: n.from(0, most)}
	gain, skew := n.from(-t.Gain, t.Gain), n.from(-w.Skew, w.Skew)
	for range n.from(0, api.MaxTests) {
		t.Tests = append(t.Tests, n.test(w, gain, skew, n.from(0, walks)))
	}
	return t
}

// class returns one that is often just not open, or just open.
func (n *numbers) class(k known) api.Class {
	c := class(n.area(), n.from(0, 20))
	if len(k) == 0 {
		return c
	}
	errs := k.span(func(x pair) int { return x.err(c.Size) })
	c.Most = max(0, [...]int{c.Most, k[n.from(0, len(k)-1)].err(c.Size) + n.from(-2, 2), errs.High, errs.High - 1, errs.Low, errs.Low - 1}[n.from(0, 5)])
	return c
}

// seen returns a number that an area can be seen as, with some gain, or any number.
func (n *numbers) seen() int {
	area := n.area()
	return [...]int{area + n.from(-area/20, area/20), n.from(0, api.MaxCount)}[n.from(0, 1)]
}

// small calls a test with trials of which everything can be tried.
func small(state uint64, times int, try func(n *numbers, t api.Trial)) {
	n := numbers{state: state}
	for range times {
		try(&n, n.trial(n.wheel(), 20, 3))
	}
}

// large calls a test with trials of all sizes.
func large(state uint64, times int, try func(n *numbers, t api.Trial)) {
	n := numbers{state: state}
	for range times {
		w := api.Wheel{
			Full: n.from(10, [...]int{200, api.MaxFull}[n.from(0, 1)]), Read: n.from(0, [...]int{1, api.MaxRead}[n.from(0, 1)]), Slip: n.from(0, api.MaxSlip), Skew: n.from(0, api.MaxSkew),
			Circle: n.from(0, api.MaxCount), Guess: span(0, n.from(0, api.MaxCount)), Wrong: n.from(0, [...]int{1, api.MaxWalks}[n.from(0, 1)]),
		}
		try(&n, n.trial(w, api.MaxGain, api.MaxWalks))
	}
}

// wide are numbers at the ends of what an int and a limit can be.
func wide() []int {
	return []int{math.MinInt, math.MinInt + 1, -1000, -50, -2, -1, 0, 1, 2, 8, 9, 10, 20, 21, 50, 51, 1000, 9000, 9001, 9999, 10000, math.MaxInt - 1, math.MaxInt}
}

// badNumbers are trials for which ErrTrial is returned, each for one reason.
func badNumbers() map[string]api.Trial {
	bad := map[string]api.Trial{}
	for name, change := range map[string]func(t *api.Trial){
		"Gain -1":          func(t *api.Trial) { t.Gain = -1 },
		"Gain 51":          func(t *api.Trial) { t.Gain = 51 },
		"Gain least":       func(t *api.Trial) { t.Gain = math.MinInt },
		"Gain greatest":    func(t *api.Trial) { t.Gain = math.MaxInt },
		"seven tests":      func(t *api.Trial) { t.Tests = slices.Repeat(t.Tests[:1], 7) },
		"a first area":     func(t *api.Trial) { t.Tests[0].Area = -1 },
		"a last area":      func(t *api.Trial) { t.Tests[2].Area = 9001 },
		"an area least":    func(t *api.Trial) { t.Tests[1].Area = math.MinInt },
		"an area greatest": func(t *api.Trial) { t.Tests[1].Area = math.MaxInt },
	} {
		t := trialT()
		change(&t)
		bad[name] = t
	}
	return bad
}

// badWheels are changes of a trial by which its wheel is not valid, each for one reason.
func badWheels() map[string]func(t *api.Trial) {
	return map[string]func(t *api.Trial){
		"Full 9":         func(t *api.Trial) { t.Wheel.Full = 9 },
		"Full 10001":     func(t *api.Trial) { t.Wheel.Full = 10001 },
		"Read 21":        func(t *api.Trial) { t.Wheel.Read = 21 },
		"Slip -1":        func(t *api.Trial) { t.Wheel.Slip = -1 },
		"Skew 21":        func(t *api.Trial) { t.Wheel.Skew = 21 },
		"Skew -1":        func(t *api.Trial) { t.Wheel.Skew = -1 },
		"Skew greatest":  func(t *api.Trial) { t.Wheel.Skew = math.MaxInt },
		"Circle 10000":   func(t *api.Trial) { t.Wheel.Circle = 10000 },
		"Guess turned":   func(t *api.Trial) { t.Wheel.Guess = span(51, 50) },
		"Guess to 10000": func(t *api.Trial) { t.Wheel.Guess.High = 10000 },
		"Wrong 9":        func(t *api.Trial) { t.Wheel.Wrong = 9 },
		"Wrong -1":       func(t *api.Trial) { t.Wheel.Wrong = -1 },
	}
}

// badWalks are changes of a trial by which walks of the last test are not valid, each for one reason.
func badWalks() map[string]func(t *api.Trial) {
	last := func(l ...api.Walk) func(t *api.Trial) {
		return func(t *api.Trial) { t.Tests[len(t.Tests)-1].Walks = l }
	}
	return map[string]func(t *api.Trial){
		"nine walks": last(slices.Repeat([]api.Walk{walk(1, 1, 0, 10, 12)}, 9)...),
		"Sense 0":    last(walk(0, 1, 0, 10, 12)),
		"Side 2":     last(walk(1, 2, 0, 10, 12)),
		"Inside -1":  last(walk(1, 1, -1, 10, 12)),
		"Start 100":  last(walk(1, 1, 0, 100, 12)),
		"End -1":     last(walk(1, 1, 0, 10, 12), walk(1, 1, 0, 10, -1)),
	}
}
