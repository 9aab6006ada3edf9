package parcels_test

import (
	"math"
	"slices"
	"testing"

	"knurl/api"
	"knurl/parcels"
)

// answer is what a function returns, each number of it, and its error.
type answer struct {
	numbers []int
	e       api.Errno
}

func one(n int, e api.Errno) answer       { return answer{[]int{n}, e} }
func list(l []int, e api.Errno) answer    { return answer{l, e} }
func both(a, b []int, e api.Errno) answer { return answer{slices.Concat(a, b), e} }

func ends(s api.Span, e api.Errno) answer { return answer{[]int{s.Low, s.High}, e} }

func truth(ok bool, e api.Errno) answer {
	if ok {
		return answer{[]int{1}, e}
	}
	return answer{[]int{0}, e}
}

// arguments is what functions are asked for.
type arguments struct {
	p      api.Plat
	areas  []int
	parcel int
}

func valid() arguments { return arguments{p: platP(), areas: []int{11, 20, 16, 30}, parcel: 3} }

// stuck is valid, but there is no adjustment.
func stuck() arguments { return arguments{p: platQ(), areas: []int{11, 20, 16, 30}, parcel: 3} }

// asked returns what all functions answer.
func asked(x arguments) map[string]answer {
	return map[string]answer{
		"Check":  {nil, parcels.Check(x.p)},
		"Fills":  truth(parcels.Fills(x.p, x.areas)),
		"Chain":  both(parcels.Chain(x.p)),
		"Least":  one(parcels.Least(x.p)),
		"Adjust": list(parcels.Adjust(x.p)),
		"Worst":  one(parcels.Worst(x.p)),
		"Even":   list(parcels.Even(x.p)),
		"Few":    one(parcels.Few(x.p)),
		"Range":  ends(parcels.Range(x.p, x.parcel)),
		"Fixed":  list(parcels.Fixed(x.p)),
	}
}

// sameErrors fails the test unless all functions return an error, but for those that are listed with another one, and with each error zero values alone.
func sameErrors(t *testing.T, name string, x arguments, want api.Errno, but map[string]api.Errno) {
	t.Helper()
	for call, a := range asked(x) {
		wanted, other := but[call]
		if !other {
			wanted = want
		}
		if a.e != wanted {
			t.Errorf("%s of %s: %d, want %d", call, name, a.e, wanted)
		}
		zeroWithError(t, name, call, a)
	}
}

func zeroWithError(t *testing.T, name, call string, a answer) {
	t.Helper()
	zeros := len(a.numbers) < 2 || call == "Range"
	if a.e != api.OK && (!zeros || slices.ContainsFunc(a.numbers, func(n int) bool { return n != 0 })) {
		t.Errorf("%s of %s = %v with the error %d", call, name, a.numbers, a.e)
	}
}

// R1, R2: ErrPlat, then ErrArg, then ErrNone.
func TestOrderOfErrors(t *testing.T) {
	fits := map[string]api.Errno{"Chain": api.ErrNone}
	none := map[string]api.Errno{"Chain": api.OK, "Check": api.OK, "Fills": api.OK}
	sameErrors(t, "valid arguments", valid(), api.OK, fits)
	sameErrors(t, "a plat without an adjustment", stuck(), api.ErrNone, none)
	for name, p := range badPlats() {
		sameErrors(t, name, arguments{p: p, areas: valid().areas, parcel: 3}, api.ErrPlat, nil)
		sameErrors(t, name, arguments{p: p, areas: nil, parcel: -1}, api.ErrPlat, nil)
	}
	for _, i := range []int{math.MinInt, -1, 4, 5, math.MaxInt} {
		x, y := valid(), stuck()
		x.parcel, y.parcel = i, i
		sameErrors(t, "a bad parcel", x, api.OK, map[string]api.Errno{"Chain": api.ErrNone, "Range": api.ErrArg})
		sameErrors(t, "a bad parcel, without an adjustment", y, api.ErrNone, map[string]api.Errno{"Chain": api.OK, "Check": api.OK, "Fills": api.OK, "Range": api.ErrArg})
	}
	for _, areas := range [][]int{nil, {}, {11, 20, 16}, {11, 20, 16, 30, 0}} {
		x, y := valid(), stuck()
		x.areas, y.areas = areas, areas
		sameErrors(t, "too few areas, or too many", x, api.OK, map[string]api.Errno{"Chain": api.ErrNone, "Fills": api.ErrArg})
		sameErrors(t, "too few areas, or too many, without an adjustment", y, api.ErrNone, map[string]api.Errno{"Chain": api.OK, "Check": api.OK, "Fills": api.ErrArg})
	}
}

// P1, R5, R8: no argument makes a function panic, or go on without end.
func TestAnyArguments(t *testing.T) {
	n := numbers{state: 1}
	pick := func() int { return wide()[n.from(0, len(wide())-1)] }
	found := map[api.Errno]int{}
	for i := range 6000 {
		x := arguments{p: n.plat(n.from(0, 6), 4, 9, 3), parcel: n.from(-1, 6)}
		switch i % 6 {
		case 0:
			x.p.Parcels = append(x.p.Parcels, parcel(pick(), pick(), pick(), pick()))
		case 1:
			x.p.Rows = append(x.p.Rows, pick())
		case 2:
			x.p.Cols = append(x.p.Cols, pick())
		case 3:
			x.p.Parcels = append(x.p.Parcels, parcel(-1, -1, n.from(0, api.MaxParcel), n.from(0, api.MaxOff)))
			x.parcel = pick()
		case 4:
			x.p.Rows, x.p.Cols = nil, nil
		}
		for range len(x.p.Parcels) + n.from(-1, 1) {
			x.areas = append(x.areas, pick())
		}
		for call, a := range asked(x) {
			zeroWithError(t, "any", call, a)
			found[a.e]++
		}
	}
	if found[api.OK] < 1000 || found[api.ErrNone] < 1000 || found[api.ErrPlat] < 1000 || found[api.ErrArg] < 1000 {
		t.Errorf("errors %v", found)
	}
}

// R3, R7: nil and empty are the same, and a limit includes its number and counts equal elements.
func TestNumberOfElements(t *testing.T) {
	for count := range 12 {
		want := map[bool]api.Errno{true: api.OK, false: api.ErrPlat}
		p := api.Plat{Parcels: slices.Repeat([]api.Parcel{parcel(-1, -1, 1, 1)}, count)}
		if e := parcels.Check(p); e != want[count <= api.MaxParcels] {
			t.Errorf("Check of %d parcels: %d", count, e)
		}
		for i, p := range []api.Plat{{Rows: make([]int, count)}, {Cols: make([]int, count)}, {Rows: make([]int, count), Cols: make([]int, count)}} {
			if e := parcels.Check(p); e != want[count <= api.MaxStrips] {
				t.Errorf("%d: Check of %d strips: %d", i, count, e)
			}
		}
	}
	empty := arguments{p: api.Plat{Parcels: []api.Parcel{}, Rows: []int{}, Cols: []int{}}, areas: []int{}}
	var none arguments
	for call, a := range asked(empty) {
		if b := asked(none)[call]; a.e != b.e || !slices.Equal(a.numbers, b.numbers) {
			t.Errorf("%s of empty lists: %v; of nil: %v", call, a, b)
		}
	}
	for call, a := range asked(none) {
		want := map[string]api.Errno{"Chain": api.ErrNone, "Range": api.ErrArg}[call]
		if a.e != want {
			t.Errorf("%s of nothing: %d", call, a.e)
		}
	}
}

// R4: a result is new memory, an argument stays as it was, also behind its end; and no state is kept.
func TestMemory(t *testing.T) {
	for _, x := range []arguments{valid(), stuck()} {
		p := copied(x.p)
		p.Parcels, p.Rows, p.Cols = append(p.Parcels, parcel(7, 7, 7, 7)), append(p.Rows, 7), append(p.Cols, 7)
		before := copied(p)
		x.p = api.Plat{Parcels: p.Parcels[:4], Rows: p.Rows[:2], Cols: p.Cols[:2]}
		areas := append(slices.Clone(x.areas), 7)
		x.areas = areas[:4]
		for call, a := range asked(x) {
			first := slices.Clone(a.numbers)
			clear(a.numbers)
			_ = append(a.numbers, 1)
			if again := asked(x)[call]; !slices.Equal(again.numbers, first) || again.e != a.e {
				t.Errorf("%s = %v, and then %v", call, first, again.numbers)
			}
		}
		if !slices.Equal(p.Parcels, before.Parcels) || !slices.Equal(p.Rows, before.Rows) || !slices.Equal(p.Cols, before.Cols) || !slices.Equal(areas, []int{11, 20, 16, 30, 7}) {
			t.Errorf("an argument was changed: %v, %v; it was %v", p, areas, before)
		}
	}
}

// R4: rows and columns of a chain share no memory.
func TestMemoryOfChains(t *testing.T) {
	found := 0
	large(40, 500, func(_ *numbers, p api.Plat) {
		rows, cols, e := parcels.Chain(p)
		if e != api.OK || len(rows) == 0 || len(cols) == 0 {
			return
		}
		found++
		before := slices.Clone(cols)
		rows = append(rows, 9, 9, 9, 9)
		clear(rows)
		if !slices.Equal(cols, before) {
			t.Errorf("the columns of Chain of %v were %v, and then %v", p, before, cols)
		}
	})
	if found < 5 {
		t.Errorf("only %d chains with rows and columns", found)
	}
}
