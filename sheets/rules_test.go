package sheets_test

import (
	"slices"
	"testing"

	"knurl/api"
	"knurl/sheets"
)

// answer is what a function returns, each number of it, and its error.
type answer struct {
	numbers []int
	e       api.Errno
}

func one(n int, e api.Errno) answer       { return answer{[]int{n}, e} }
func list(l []int, e api.Errno) answer    { return answer{l, e} }
func both(s api.Span, e api.Errno) answer { return answer{[]int{s.Low, s.High}, e} }

// arguments is what functions are asked for besides a sheet.
type arguments struct {
	way       int
	p         []api.Point
	a, b      api.Point
	deed, off int
}

func valid() arguments {
	return arguments{way: api.Along, p: fieldR(), a: point(1, 2), b: point(-30, 40), deed: 405, off: 2}
}

// with returns valid arguments of which some are changed.
func with(change func(x *arguments)) arguments {
	x := valid()
	change(&x)
	return x
}

// asked returns what all functions answer.
func asked(s api.Sheet, x arguments) map[string]answer {
	return map[string]answer{
		"Check":   {nil, sheets.Check(s)},
		"Fewest":  one(sheets.Fewest(s)),
		"Many":    one(sheets.Many(s)),
		"Factors": list(sheets.Factors(s, x.way)),
		"Alike":   one(sheets.Alike(s)),
		"Strange": list(sheets.Strange(s)),
		"Area":    both(sheets.Area(s, x.p)),
		"Length":  both(sheets.Length(s, x.a, x.b)),
		"Agrees":  one(sheets.Agrees(s, x.p, x.deed, x.off)),
	}
}

// sameErrors fails the test unless all functions return an error, but for those that are listed with another one, and with each error zero values alone.
func sameErrors(t *testing.T, name string, got map[string]answer, want api.Errno, but map[string]api.Errno) {
	t.Helper()
	for call, a := range got {
		wanted, other := but[call]
		if !other {
			wanted = want
		}
		if a.e != wanted {
			t.Errorf("%s of %s: %d, want %d", call, name, a.e, wanted)
		}
		zeroWithError(t, name, call, a)
	}
}

func zeroWithError(t *testing.T, name, call string, a answer) {
	t.Helper()
	if a.e != api.OK && slices.ContainsFunc(a.numbers, func(n int) bool { return n != 0 }) {
		t.Errorf("%s of %s = %v with the error %d", call, name, a.numbers, a.e)
	}
}

// R1, R2: ErrSheet, then ErrPolygon, then ErrArg, then ErrNone.
func TestOrderOfErrors(t *testing.T) {
	worst := arguments{way: 3, p: points(0, 0), a: point(201, 0), deed: -1, off: -1}
	for name, s := range badSheets() {
		sameErrors(t, name, asked(s, worst), api.ErrSheet, nil)
		sameErrors(t, name, asked(s, valid()), api.ErrSheet, nil)
	}
	for _, s := range []api.Sheet{sheetS(), sheetT()} { // the second one has no truth
		always := map[string]api.Errno{"Check": api.OK, "Fewest": api.OK}
		without := api.OK
		if _, e := sheets.Many(s); e != api.OK {
			without = api.ErrNone
		}
		sameErrors(t, "valid arguments", asked(s, valid()), without, always)
		for name, p := range badPolygons() {
			for _, deed := range []int{405, -1} {
				but := map[string]api.Errno{"Check": api.OK, "Fewest": api.OK, "Area": api.ErrPolygon, "Agrees": api.ErrPolygon}
				sameErrors(t, name, asked(s, with(func(x *arguments) { x.p, x.deed = p, deed })), without, but)
			}
		}
		always["Factors"] = api.ErrArg
		for _, way := range []int{-1, 0, 3, wide()[0]} {
			sameErrors(t, "a bad way", asked(s, with(func(x *arguments) { x.way = way })), without, always)
		}
		delete(always, "Factors")
		always["Length"] = api.ErrArg
		for _, c := range badPoints() {
			sameErrors(t, "a bad point", asked(s, with(func(x *arguments) { x.a = c })), without, always)
			sameErrors(t, "a bad point", asked(s, with(func(x *arguments) { x.b = c })), without, always)
		}
		delete(always, "Length")
		always["Agrees"] = api.ErrArg
		for _, n := range []int{-1, api.MaxDeed + 1, wide()[0], wide()[len(wide())-1]} {
			sameErrors(t, "a bad deed", asked(s, with(func(x *arguments) { x.deed = n })), without, always)
			sameErrors(t, "a bad off", asked(s, with(func(x *arguments) { x.off = n })), without, always)
		}
	}
}

// P1, R5, R8: no argument makes a function panic.
func TestAnyArguments(t *testing.T) {
	n := numbers{state: 1}
	pick := func() int { return wide()[n.from(0, len(wide())-1)] }
	for i := range 6000 {
		s := api.Sheet{Across: span(pick(), pick()), Along: span(pick(), pick()), Wrong: pick()}
		if i%2 == 0 {
			s = n.sheet()
		}
		for range n.from(0, 4) {
			s.Controls = append(s.Controls, control(pick(), pick(), pick(), pick()))
		}
		x := arguments{way: pick(), a: point(pick(), pick()), b: point(pick(), pick()), deed: pick(), off: pick()}
		for range n.from(0, 11) {
			x.p = append(x.p, point(pick(), pick()))
		}
		for call, a := range asked(s, x) {
			zeroWithError(t, "any", call, a)
		}
	}
}

// R3, R7: nil and empty are the same, and a limit includes its number and counts equal controls.
func TestNumberOfControls(t *testing.T) {
	for count := range 12 {
		want := api.OK
		if count > api.MaxControls {
			want = api.ErrSheet
		}
		s := sheetS()
		s.Controls = slices.Repeat(s.Controls[:1], count)
		if e := sheets.Check(s); e != want {
			t.Errorf("Check of %d controls: %d", count, e)
		}
	}
	s := widest()
	got := asked(s, valid())
	s.Controls = []api.Control{}
	for call, a := range asked(s, valid()) {
		if b := got[call]; !slices.Equal(a.numbers, b.numbers) || a.e != b.e {
			t.Errorf("%s of nil = %v; of an empty list %v", call, b, a)
		}
	}
}

// R4: a result is new memory, an argument stays as it was, also behind its end; and no state is kept.
func TestMemory(t *testing.T) {
	kept, corners := append(sheetT().Controls, control(api.Along, 7, 7, 7)), append(fieldR(), point(7, 7))
	s, x := sheetT(), valid()
	s.Wrong = 1
	s.Controls = slices.Clone(kept)[:4]
	x.p = slices.Clone(corners)[:4]
	for call, a := range asked(s, x) {
		before := slices.Clone(a.numbers)
		clear(a.numbers)
		_ = append(a.numbers, 1)
		if again := asked(s, x)[call]; !slices.Equal(again.numbers, before) || again.e != a.e {
			t.Errorf("%s = %v, and then %v", call, before, again.numbers)
		}
	}
	if !slices.Equal(s.Controls[:5], kept) || !slices.Equal(x.p[:5], corners) {
		t.Errorf("an argument was changed: %v, %v", s.Controls[:5], x.p[:5])
	}
}
