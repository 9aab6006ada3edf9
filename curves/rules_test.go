package curves_test

import (
	"math"
	"slices"
	"testing"

	"knurl/api"
	"knurl/curves"
)

// answer is what a function returns, each number of it, and its error.
type answer struct {
	numbers []int
	e       api.Errno
}

func one(n int, e api.Errno) answer       { return answer{[]int{n}, e} }
func list(l []int, e api.Errno) answer    { return answer{l, e} }
func ends(s api.Span, e api.Errno) answer { return answer{[]int{s.Low, s.High}, e} }

func allEnds(l []api.Span, e api.Errno) answer {
	a := answer{e: e}
	for _, s := range l {
		a.numbers = append(a.numbers, s.Low, s.High)
	}
	return a
}

// arguments is what functions are asked for.
type arguments struct {
	c               api.Curve
	at, level, a, b int
}

func valid() arguments { return arguments{c: curveC(), at: 3, level: 5, a: 1, b: 4} }

// stuck is valid, but there is no truth.
func stuck() arguments { return arguments{c: curveD(), at: 3, level: 5, a: 1, b: 4} }

// asked returns what all functions answer.
func asked(x arguments) map[string]answer {
	return map[string]answer{
		"Check":    {nil, curves.Check(x.c)},
		"Fewest":   one(curves.Fewest(x.c)),
		"Height":   ends(curves.Height(x.c, x.at)),
		"Lean":     ends(curves.Lean(x.c, x.at)),
		"Level":    one(curves.Level(x.c, x.level, x.a, x.b)),
		"Integral": ends(curves.Integral(x.c, x.a, x.b)),
		"Draw":     allEnds(curves.Draw(x.c)),
		"Best":     list(curves.Best(x.c)),
		"Told":     one(curves.Told(x.c)),
		"Next":     one(curves.Next(x.c)),
	}
}

// sameErrors fails the test unless all functions return an error, but for those that are listed with another one, and with each error zero values alone.
func sameErrors(t *testing.T, name string, x arguments, want api.Errno, but map[string]api.Errno) {
	t.Helper()
	for call, a := range asked(x) {
		wanted, other := but[call]
		if !other {
			wanted = want
		}
		if a.e != wanted {
			t.Errorf("%s of %s: %d, want %d", call, name, a.e, wanted)
		}
		zeroWithError(t, name, call, a)
	}
}

func zeroWithError(t *testing.T, name, call string, a answer) {
	t.Helper()
	lists := call == "Draw" || call == "Best"
	if a.e != api.OK && (lists && len(a.numbers) > 0 || slices.ContainsFunc(a.numbers, func(n int) bool { return n != 0 })) {
		t.Errorf("%s of %s = %v with the error %d", call, name, a.numbers, a.e)
	}
}

// butFor returns errors that are the same but for some functions.
func butFor(errors map[string]api.Errno, e api.Errno, calls ...string) map[string]api.Errno {
	other := map[string]api.Errno{}
	for call, e := range errors {
		other[call] = e
	}
	for _, call := range calls {
		other[call] = e
	}
	return other
}

// R1, R2: ErrCurve, then ErrArg, then ErrNone.
func TestOrderOfErrors(t *testing.T) {
	none := map[string]api.Errno{"Check": api.OK, "Fewest": api.OK}
	sameErrors(t, "valid arguments", valid(), api.OK, nil)
	sameErrors(t, "a curve without a truth", stuck(), api.ErrNone, none)
	for name, c := range badCurves() {
		x := valid()
		x.c = c
		sameErrors(t, name, x, api.ErrCurve, nil)
		sameErrors(t, name, arguments{c: c, at: -1, level: 101, a: 3, b: 2}, api.ErrCurve, nil)
	}
	for _, at := range []int{math.MinInt, -1, 4, 5, math.MaxInt} {
		x, y := valid(), stuck()
		x.at, y.at = at, at
		bad := []string{"Height", "Lean"}
		if at == 4 {
			bad = bad[1:]
		}
		sameErrors(t, "a bad place", x, api.OK, butFor(nil, api.ErrArg, bad...))
		sameErrors(t, "a bad place, without a truth", y, api.ErrNone, butFor(none, api.ErrArg, bad...))
	}
	for _, ends := range [][2]int{{-1, 2}, {math.MinInt, 2}, {2, 5}, {2, math.MaxInt}, {3, 2}, {math.MaxInt, math.MinInt}, {5, 5}, {-1, -1}} {
		x, y := valid(), stuck()
		x.a, x.b, y.a, y.b = ends[0], ends[1], ends[0], ends[1]
		sameErrors(t, "bad places", x, api.OK, butFor(nil, api.ErrArg, "Level", "Integral"))
		sameErrors(t, "bad places, without a truth", y, api.ErrNone, butFor(none, api.ErrArg, "Level", "Integral"))
	}
	for _, level := range []int{math.MinInt, -101, 101, math.MaxInt} {
		x, y := valid(), stuck()
		x.level, y.level = level, level
		sameErrors(t, "a bad level", x, api.OK, butFor(nil, api.ErrArg, "Level"))
		sameErrors(t, "a bad level, without a truth", y, api.ErrNone, butFor(none, api.ErrArg, "Level"))
	}
}

// P1, R5, R8: no argument makes a function panic, or go on without end.
func TestAnyArguments(t *testing.T) {
	n := numbers{state: 1}
	pick := func() int { return wide()[n.from(0, len(wide())-1)] }
	found := map[api.Errno]int{}
	for i := range 1500 {
		x := arguments{c: n.curve(n.from(1, 12), n.from(0, 4), n.between(n.from(0, 9)), n.from(0, 7), 2), at: n.from(0, 4), level: n.from(-9, 9), a: n.from(0, 2), b: n.from(0, 6)}
		switch i % 8 {
		case 0:
			x.c.Long = pick()
		case 1:
			x.c.Slope = pick()
		case 2:
			x.c.Range = span(pick(), pick())
		case 3:
			x.c.Knots = append(x.c.Knots, knot(pick(), pick(), pick()))
		case 4:
			x.c.Wrong = pick()
		case 5:
			x.at, x.level, x.a, x.b = pick(), pick(), pick(), pick()
		}
		for call, a := range asked(x) {
			zeroWithError(t, "any", call, a)
			found[a.e]++
		}
	}
	if found[api.OK] < 1000 || found[api.ErrNone] < 500 || found[api.ErrCurve] < 1000 || found[api.ErrArg] < 300 {
		t.Errorf("errors %v", found)
	}
}

// R3, R7: nil and empty are the same, and a limit includes its number and counts equal elements.
func TestNumberOfElements(t *testing.T) {
	for count := range 12 {
		want := map[bool]api.Errno{true: api.OK, false: api.ErrCurve}[count <= api.MaxKnots]
		x := valid()
		x.c.Knots = slices.Repeat([]api.Knot{knot(2, 4, 6)}, count)
		sameErrors(t, "equal knots", x, want, nil)
	}
	empty, none := valid(), valid()
	empty.c.Knots, none.c.Knots = []api.Knot{}, nil
	for call, a := range asked(empty) {
		if b := asked(none)[call]; a.e != api.OK || b.e != api.OK || !slices.Equal(a.numbers, b.numbers) {
			t.Errorf("%s of no knots: %v; of nil: %v", call, a, b)
		}
	}
	sameErrors(t, "nothing", arguments{}, api.ErrCurve, nil)
}

// R4: a result is new memory, an argument stays as it was, also behind its end; and no state is kept.
func TestMemory(t *testing.T) {
	for _, x := range []arguments{valid(), stuck()} {
		knots := append(slices.Clone(x.c.Knots), knot(7, 7, 7))
		before := slices.Clone(knots)
		x.c.Knots = knots[:len(knots)-1]
		for call, a := range asked(x) {
			first := slices.Clone(a.numbers)
			clear(a.numbers)
			if again := asked(x)[call]; !slices.Equal(again.numbers, first) || again.e != a.e {
				t.Errorf("%s = %v, and then %v", call, first, again.numbers)
			}
		}
		if !slices.Equal(knots, before) {
			t.Errorf("an argument was changed: %v; it was %v", knots, before)
		}
	}
}

// R4: lists of two calls share no memory.
func TestMemoryOfLists(t *testing.T) {
	first, _ := curves.Draw(curveC())
	line, _ := curves.Best(curveC())
	clear(first)
	clear(line)
	spans, e := curves.Draw(curveC())
	sameList(t, "Draw of C", spans, e, []api.Span{span(0, 0), span(0, 3), span(0, 12), span(3, 27), span(12, 42)}, api.OK)
	again, e := curves.Best(curveC())
	sameList(t, "Best of C", again, e, []int{0, 1, 6, 15, 27}, api.OK)
}
