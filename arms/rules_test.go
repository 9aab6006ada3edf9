package arms_test

import (
	"slices"
	"testing"

	"knurl/api"
	"knurl/arms"
)

// P1, R2, R5, R8: no argument makes a function panic; with an error all else is zero, and without one a ratio is valid and reduced.
func TestAnyArguments(t *testing.T) {
	checkRatio := func(r api.Ratio, e api.Errno) {
		t.Helper()
		if e != api.OK && r != (api.Ratio{}) {
			t.Errorf("%v with the error %d", r, e)
		}
		if again, f := arms.Reduce(r); e == api.OK && (f != api.OK || again != r) {
			t.Errorf("%v is not reduced, or not valid", r)
		}
	}
	checkInt := func(n int, e api.Errno) {
		t.Helper()
		if e != api.OK && n != 0 {
			t.Errorf("%d with the error %d", n, e)
		}
	}
	checkList := func(l []int, e api.Errno) {
		t.Helper()
		if (e == api.OK) != (len(l) > 0) || !slices.IsSorted(l) {
			t.Errorf("%v with the error %d", l, e)
		}
	}
	n := numbers{state: 1}
	pick := func() int { return wide()[n.from(0, len(wide())-1)] }
	for range 20000 {
		r, s := ratio(pick(), pick()), ratio(pick(), pick())
		checkRatio(arms.Reduce(r))
		checkRatio(arms.Add(r, s))
		checkRatio(arms.Mul(r, s))
		checkInt(arms.Compare(r, s))
		checkRatio(arms.Best(r, pick()))
		a, steps := api.Arm{Unit: ratio(pick(), pick()), Roll: r, Low: pick(), High: pick()}, pick()
		for _, a := range []api.Arm{a, {Unit: ratio(1, 2), Roll: ratio(3, 10), Low: a.Low, High: a.High}, {Unit: a.Unit, Roll: a.Roll, Low: 1, High: 100}, long(), fine()} {
			checkRatio(arms.Value(a, steps))
			checkInt(arms.Set(a, s))
			checkRatio(arms.Off(a, steps, s))
			checkInt(arms.Scale(a, steps, s))
		}
		for _, v := range []api.Vernier{{Parts: pick(), Slack: pick()}, {Parts: n.from(2, api.MaxLines), Slack: n.from(0, 2)}} {
			checkList(arms.Seen(v, steps))
			if n.from(0, 9) == 0 {
				checkList(arms.Settings(v, []api.Glance{{Main: pick(), Line: pick()}, {Main: steps, Line: pick()}}))
			}
		}
	}
}

// R3, R7: nil and empty are the same, and a limit includes its number and counts equal elements.
func TestNumberOfGlances(t *testing.T) {
	for count := range 10 {
		l := make([]api.Glance, count)
		got, e := arms.Settings(vernier(), l)
		if count >= 1 && count <= api.MaxGlances {
			sameList(t, "Settings", got, e, []int{0, 1, 9}, api.OK)
		} else {
			sameList(t, "Settings", got, e, nil, api.ErrArg)
		}
	}
	got, e := arms.Settings(vernier(), nil)
	sameList(t, "Settings", got, e, nil, api.ErrArg)
}

// R4: a result is new memory, and an argument stays as it was; and no state is kept.
func TestMemory(t *testing.T) {
	l := glances(8, 7)
	first, _ := arms.Settings(vernier(), l)
	if !slices.Equal(l, glances(8, 7)) {
		t.Errorf("Settings changed the glances: %v", l)
	}
	lines, _ := arms.Seen(vernier(), 47)
	clear(first)
	clear(lines)
	first = append(first, 1)
	second, e := arms.Settings(vernier(), l)
	sameList(t, "Settings", second, e, []int{47, 48}, api.OK)
	lines, e = arms.Seen(vernier(), 47)
	sameList(t, "Seen", lines, e, []int{6, 7, 8}, api.OK)
	if len(first) != 3 || first[0] != 0 {
		t.Errorf("an earlier result was changed: %v", first)
	}
}
