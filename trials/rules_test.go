package trials_test

import (
	"math"
	"reflect"
	"slices"
	"testing"

	"knurl/api"
	"knurl/trials"
)

// answer is what a function returns, each number of it, and its error.
type answer struct {
	numbers []int
	e       api.Errno
}

func one(n int, e api.Errno) answer       { return answer{[]int{n}, e} }
func list(l []int, e api.Errno) answer    { return answer{l, e} }
func ends(s api.Span, e api.Errno) answer { return answer{[]int{s.Low, s.High}, e} }

// query is what is asked of a trial.
type query struct {
	area, seen int
	class      api.Class
}

// asked returns what all functions answer.
func asked(x api.Trial, q query) map[string]answer {
	return map[string]answer{
		"Check":   {nil, trials.Check(x)},
		"Many":    one(trials.Many(x)),
		"Gains":   list(trials.Gains(x)),
		"Skews":   list(trials.Skews(x)),
		"Errs":    ends(trials.Errs(x, q.area)),
		"Certify": one(trials.Certify(x, q.class)),
		"Seen":    ends(trials.Seen(x, q.area)),
		"Real":    list(trials.Real(x, q.seen)),
		"Fewest":  one(trials.Fewest(x, q.class)),
		"Decide":  list(trials.Decide(x, q.class)),
		"Needed":  list(trials.Needed(x, q.class)),
	}
}

// queryT is one for which all functions have an answer to T.
func queryT() query { return query{1000, 1000, class(1000, 4)} }

// sameErrors fails the test unless all functions return an error, but for those that are listed with another one, and with each error zero values alone.
func sameErrors(t *testing.T, name string, x api.Trial, q query, want api.Errno, but map[string]api.Errno) {
	t.Helper()
	for call, a := range asked(x, q) {
		wanted, other := but[call]
		if !other {
			wanted = want
		}
		if a.e != wanted {
			t.Errorf("%s of %s: %d, want %d", call, name, a.e, wanted)
		}
		zeroWithError(t, name, call, a)
	}
}

func zeroWithError(t *testing.T, name, call string, a answer) {
	t.Helper()
	isList := call == "Gains" || call == "Skews" || call == "Real" || call == "Decide" || call == "Needed"
	if a.e != api.OK && (isList && len(a.numbers) > 0 || slices.ContainsFunc(a.numbers, func(n int) bool { return n != 0 })) {
		t.Errorf("%s of %s = %v with the error %d", call, name, a.numbers, a.e)
	}
}

// ofClasses are the functions that are asked of a class, each with an error.
func ofClasses(e api.Errno) map[string]api.Errno {
	return map[string]api.Errno{"Certify": e, "Fewest": e, "Decide": e, "Needed": e}
}

// ofAreas are the functions that are asked of an area.
func ofAreas(e api.Errno) map[string]api.Errno {
	return map[string]api.Errno{"Errs": e, "Seen": e}
}

// ofNumbers are the functions that are asked of a seen area.
func ofNumbers(e api.Errno) map[string]api.Errno { return map[string]api.Errno{"Real": e} }

// R1: ErrTrial, then the errors of wheels in the order of the tests.
func TestOrderOfTrialErrors(t *testing.T) {
	bad := query{-1, -1, class(-1, -1)}
	for _, q := range []query{queryT(), bad} {
		for name, x := range badNumbers() {
			sameErrors(t, name, x, q, api.ErrTrial, nil)
			for other, change := range badWheels() {
				y := copied(x)
				change(&y)
				sameErrors(t, name+", "+other, y, q, api.ErrTrial, nil)
			}
			for other, change := range badWalks() {
				y := copied(x)
				change(&y)
				sameErrors(t, name+", "+other, y, q, api.ErrTrial, nil)
			}
		}
		for name, change := range badWheels() {
			for _, x := range []api.Trial{trialT(), trialT0(), just(trialT()), trialN()} {
				change(&x)
				sameErrors(t, name, x, q, api.ErrWheel, nil)
				for other, more := range badWalks() {
					y := copied(x)
					if len(y.Tests) > 0 {
						more(&y)
						sameErrors(t, name+", "+other, y, q, api.ErrWheel, nil)
					}
				}
			}
		}
		for name, change := range badWalks() {
			for _, x := range []api.Trial{trialT(), trialT0(), trialN()} {
				change(&x)
				sameErrors(t, name, x, q, api.ErrWalk, nil)
				x.Tests = append([]api.Test{x.Tests[len(x.Tests)-1]}, x.Tests[:len(x.Tests)-1]...)
				sameErrors(t, name+" first", x, q, api.ErrWalk, nil)
			}
		}
	}
}

// R1, R2, R7: then ErrArg, then ErrNone.
func TestOrderOfErrors(t *testing.T) {
	sameErrors(t, "T", trialT(), queryT(), api.OK, nil)
	sameErrors(t, "T, the least", trialT(), query{0, 0, class(0, 0)}, api.OK, nil)
	sameErrors(t, "T, the greatest", trialT(), query{9000, 9999, class(9000, 9999)}, api.OK, nil)
	sameErrors(t, "no truth", trialN(), queryT(), api.ErrNone, map[string]api.Errno{"Check": api.OK})
	for _, n := range []int{math.MinInt, -1, 9001, 10000, math.MaxInt} {
		for name, x := range map[string]api.Trial{"T": trialT(), "no truth": trialN(), "no tests": just(trialT())} {
			for change, y := range map[string]struct {
				q   query
				but map[string]api.Errno
			}{
				"area": {query{n, 1000, class(1000, 22)}, ofAreas(api.ErrArg)},
				"size": {query{1000, 1000, class(n, 22)}, ofClasses(api.ErrArg)},
			} {
				wantErrors(t, name+", a bad "+change, x, y.q, y.but)
			}
			if n == 9001 {
				continue
			}
			wantErrors(t, name+", a bad Most", x, query{1000, 1000, class(1000, n)}, ofClasses(api.ErrArg))
			wantErrors(t, name+", a bad seen area", x, query{1000, n, class(1000, 22)}, ofNumbers(api.ErrArg))
		}
	}
}

// wantErrors is sameErrors of a valid trial, with ErrNone if it has no truth.
func wantErrors(t *testing.T, name string, x api.Trial, q query, but map[string]api.Errno) {
	t.Helper()
	want := api.OK
	if truths(t, x) == 0 {
		want = api.ErrNone
		but["Check"] = api.OK
	}
	sameErrors(t, name, x, q, want, but)
}

// P9.8 to P9.10: there are truths, but all tests together do not decide the class.
func TestOpenClass(t *testing.T) {
	open := map[string]api.Errno{"Fewest": api.ErrNone, "Decide": api.ErrNone, "Needed": api.ErrNone}
	sameErrors(t, "T0, Most 4", trialT0(), query{1000, 1000, class(1000, 4)}, api.OK, open)
	sameErrors(t, "T0, Most 2", trialT0(), query{1000, 1000, class(1000, 2)}, api.OK, open)
	sameErrors(t, "T0, Most 1", trialT0(), query{1000, 1000, class(1000, 1)}, api.OK, nil)
	sameErrors(t, "no tests, Most 21", just(trialT()), query{1000, 1000, class(1000, 21)}, api.OK, open)
	sameErrors(t, "no tests, Most 22", just(trialT()), query{1000, 1000, class(1000, 22)}, api.OK, nil)
}

// P9.8: no tests at all can decide.
func TestDecidedByNone(t *testing.T) {
	for _, x := range []api.Trial{trialT(), trialT0(), just(trialT())} {
		n, e := trials.Fewest(x, class(1000, 22))
		same(t, "Fewest", n, e, 0, api.OK)
		l, e := trials.Decide(x, class(1000, 22))
		sameList(t, "Decide", l, e, nil, api.OK)
		l, e = trials.Needed(x, class(1000, 22))
		sameList(t, "Needed", l, e, nil, api.OK)
		n, e = trials.Certify(x, class(1000, 22))
		same(t, "Certify", n, e, api.Surely, api.OK)
	}
}

// Without tests each gain and each skew can be.
func TestWithoutTests(t *testing.T) {
	x := api.Trial{Wheel: wheelW(), Gain: 3}
	n, e := trials.Many(x)
	same(t, "Many", n, e, 35, api.OK)
	l, e := trials.Gains(x)
	sameList(t, "Gains", l, e, []int{-3, -2, -1, 0, 1, 2, 3}, api.OK)
	l, e = trials.Skews(x)
	sameList(t, "Skews", l, e, []int{-2, -1, 0, 1, 2}, api.OK)
	s, e := trials.Errs(x, 1100)
	same(t, "Errs", s, e, span(0, 6), api.OK)
	s, e = trials.Seen(x, 1100)
	same(t, "Seen", s, e, span(1096, 1103), api.OK)
	l, e = trials.Real(x, 7)
	sameList(t, "Real", l, e, []int{7, 8}, api.OK)
	x.Tests = []api.Test{test(5), test(9000)}
	n, e = trials.Many(x)
	same(t, "Many with tests without walks", n, e, 35, api.OK)
}

// The Guess of the wheel does not matter, but must be valid; Wrong counts for each test on its own.
func TestGuessAndWrong(t *testing.T) {
	small(41, 150, func(n *numbers, x api.Trial) {
		q := query{n.area(), n.seen(), class(n.area(), n.from(0, 30))}
		before := asked(x, q)
		for _, guess := range []api.Span{{}, span(0, 9999), span(9999, 9999), span(7, 7)} {
			x.Wheel.Guess = guess
			if after := asked(x, q); !reflect.DeepEqual(before, after) {
				t.Errorf("%+v: %v, with another Guess %v", x, before, after)
			}
		}
	})
	x := trialN()
	x.Wheel.Wrong = 1
	for i := range x.Tests {
		x.Tests[i].Walks = append(x.Tests[i].Walks, walk(1, 1, 0, 0, 0)) // one of both is right, or both
	}
	n, e := trials.Many(x)
	same(t, "Many with a wrong walk of each test", n, e, len(tried(x, isRight)), api.OK)
}

// P1, R5, R8: no argument makes a function panic, or go on without end.
func TestAnyArguments(t *testing.T) {
	n := numbers{state: 42}
	pick := func() int { return wide()[n.from(0, len(wide())-1)] }
	found := map[api.Errno]int{}
	small(43, 1200, func(_ *numbers, x api.Trial) {
		q := query{n.area(), n.seen(), class(n.area(), n.from(0, 30))}
		x = copied(x)
		i := n.from(0, len(x.Tests))
		switch n.from(0, 7) {
		case 0:
			x.Gain = pick()
		case 1:
			x.Tests = slices.Insert(x.Tests, i, test(pick()))
		case 2:
			x.Tests = slices.Insert(x.Tests, i, test(0, walk(pick(), pick(), pick(), pick(), pick())))
		case 3:
			x.Wheel = api.Wheel{Full: pick(), Read: pick(), Slip: pick(), Skew: pick(), Circle: pick(), Guess: span(pick(), pick()), Wrong: pick()}
		case 4:
			x.Tests = slices.Repeat(x.Tests, n.from(0, 3))
		case 5:
			q = query{pick(), pick(), class(pick(), pick())}
		case 6:
			x.Wheel.Skew, x.Wheel.Wrong = pick(), pick()
		}
		for call, a := range asked(x, q) {
			zeroWithError(t, "any", call, a)
			found[a.e]++
		}
	})
	if found[api.OK] < 1000 || found[api.ErrNone] < 500 || found[api.ErrTrial] < 500 || found[api.ErrArg] < 500 || found[api.ErrWheel] < 500 || found[api.ErrWalk] < 300 || len(found) != 6 {
		t.Errorf("errors %v", found)
	}
}

// R3, R7: nil and empty are the same, and a limit includes its number and counts equal elements.
func TestNumberOfElements(t *testing.T) {
	for count := range 9 {
		x := trialT()
		x.Tests = slices.Repeat(x.Tests[2:], count)
		want := map[bool]api.Errno{true: api.OK, false: api.ErrTrial}[count <= api.MaxTests]
		sameErrors(t, "equal tests", x, query{1000, 1000, class(1000, 22)}, want, nil)
	}
	for count := range 11 {
		x := trialT0()
		x.Tests[0].Walks = slices.Repeat(x.Tests[0].Walks, count)
		want := map[bool]api.Errno{true: api.OK, false: api.ErrWalk}[count <= api.MaxWalks]
		sameErrors(t, "equal walks", x, query{1000, 1000, class(1000, 22)}, want, nil)
	}
	empty, none := just(trialT()), trialT()
	none.Tests = nil
	q := query{1000, 1000, class(1000, 22)}
	for call, a := range asked(empty, q) {
		if b := asked(none, q)[call]; a.e != api.OK || b.e != api.OK || !slices.Equal(a.numbers, b.numbers) {
			t.Errorf("%s of no tests: %v; of nil: %v", call, a, b)
		}
	}
	empty.Tests, none.Tests = []api.Test{{Area: 7, Walks: []api.Walk{}}}, []api.Test{{Area: 7}}
	for call, a := range asked(empty, q) {
		if b := asked(none, q)[call]; a.e != api.OK || b.e != api.OK || !slices.Equal(a.numbers, b.numbers) {
			t.Errorf("%s of no walks: %v; of nil: %v", call, a, b)
		}
	}
	sameErrors(t, "nothing", api.Trial{}, queryT(), api.ErrWheel, nil)
}

// P9.4 to P9.10 with the greatest numbers: each walk of the tests can be wrong, so that everything can be.
func TestGreatest(t *testing.T) {
	x := widest()
	n, e := trials.Many(x)
	same(t, "Many", n, e, 101*41, api.OK)
	s, e := trials.Errs(x, 9000)
	same(t, "Errs", s, e, span(0, 470), api.OK)
	s, e = trials.Seen(x, 9000)
	same(t, "Seen", s, e, span(8550, 9450), api.OK)
	for _, y := range []struct {
		most, want int
		fewest     api.Errno
	}{{470, api.Surely, api.OK}, {9999, api.Surely, api.OK}, {469, api.Perhaps, api.ErrNone}, {0, api.Perhaps, api.ErrNone}} {
		n, e := trials.Certify(x, class(9000, y.most))
		same(t, "Certify", n, e, y.want, api.OK)
		n, e = trials.Fewest(x, class(9000, y.most))
		same(t, "Fewest", n, e, 0, y.fewest)
	}
	l, e := trials.Real(x, 9450)
	sameList(t, "Real of 9450", l, e, []int{9000}, api.OK)
	l, e = trials.Real(x, 9999)
	sameList(t, "Real of 9999", l, e, nil, api.OK)
	x.Wheel.Wrong = 0
	sameErrors(t, "only right walks", x, query{9000, 9999, class(9000, 9999)}, api.ErrNone, map[string]api.Errno{"Check": api.OK})
}

// longer returns a trial that shares no memory, with something behind the end of each list.
func longer(x api.Trial) api.Trial {
	x = copied(x)
	x.Tests = append(x.Tests, test(7, walk(7, 7, 7, 7, 7)))[:len(x.Tests)]
	for i := range x.Tests {
		l := x.Tests[i].Walks
		x.Tests[i].Walks = append(l, walk(7, 7, 7, 7, 7))[:len(l)]
	}
	return x
}

// whole returns a copy of a trial, with what is behind the end of each list.
func whole(x api.Trial) api.Trial {
	x.Tests = slices.Clone(x.Tests[:len(x.Tests)+1])
	for i := range x.Tests[:len(x.Tests)-1] {
		l := x.Tests[i].Walks
		x.Tests[i].Walks = slices.Clone(l[:len(l)+1])
	}
	return x
}

// R4: a result is new memory, an argument stays as it was, also behind its end; and no state is kept.
func TestMemory(t *testing.T) {
	n := numbers{state: 44}
	list := []api.Trial{trialT(), trialT0(), trialN(), just(trialT())}
	for range 20 {
		list = append(list, n.trial(n.wheel(), 20, 3))
	}
	for _, y := range list {
		x := longer(y)
		before := whole(x)
		for call, a := range asked(x, queryT()) {
			again := asked(x, queryT())[call]
			if !reflect.DeepEqual(a, again) {
				t.Errorf("%s = %v, and then %v", call, a, again)
			}
			clear(a.numbers)
			if third := asked(x, queryT())[call]; !reflect.DeepEqual(third, again) {
				t.Errorf("%s = %v, and then %v", call, again, third)
			}
		}
		if after := whole(x); !reflect.DeepEqual(after, before) {
			t.Errorf("an argument was changed: %+v; it was %+v", after, before)
		}
	}
}
