package wheels_test

import (
	"slices"
	"testing"

	"knurl/api"
	"knurl/wheels"
)

// answer is what a function returns, each number of it, and its error.
type answer struct {
	numbers []int
	e       api.Errno
}

func one(n int, e api.Errno) answer       { return answer{[]int{n}, e} }
func list(l []int, e api.Errno) answer    { return answer{l, e} }
func span(s api.Span, e api.Errno) answer { return answer{[]int{s.Low, s.High}, e} }

// asked returns what all functions answer.
func asked(w api.Wheel, l []api.Walk, number, sense, side, steps int) map[string]answer {
	low, high, e := wheels.Real(w, l, armA(), steps)
	nextSense, nextSide, f := wheels.Next(w, l)
	return map[string]answer{
		"Check":   {nil, wheels.Check(w, l)},
		"Fewest":  one(wheels.Fewest(w, l)),
		"Many":    one(wheels.Many(w, l)),
		"Areas":   list(wheels.Areas(w, l)),
		"Bound":   span(wheels.Bound(w, l)),
		"Skews":   list(wheels.Skews(w, l)),
		"Strange": list(wheels.Strange(w, l)),
		"Tells":   list(wheels.Tells(w, l, number)),
		"Real":    {[]int{low.Num, low.Den, high.Num, high.Den}, e},
		"Worst":   one(wheels.Worst(w, l, sense, side)),
		"Next":    {[]int{nextSense, nextSide}, f},
	}
}

// sameErrors fails the test unless all functions return an error, but for those that are listed with another one, and with each error zero values alone.
func sameErrors(t *testing.T, name string, got map[string]answer, want api.Errno, but map[string]api.Errno) {
	t.Helper()
	for call, a := range got {
		wanted, other := but[call]
		if !other {
			wanted = want
		}
		if a.e != wanted {
			t.Errorf("%s of %s: %d, want %d", call, name, a.e, wanted)
		}
		zeroWithError(t, name, call, a)
	}
}

func zeroWithError(t *testing.T, name, call string, a answer) {
	t.Helper()
	if a.e != api.OK && slices.ContainsFunc(a.numbers, func(n int) bool { return n != 0 }) {
		t.Errorf("%s of %s = %v with the error %d", call, name, a.numbers, a.e)
	}
}

// R1, R2: ErrWheel, then ErrWalk, then ErrArg, then ErrNone.
func TestOrderOfErrors(t *testing.T) {
	for name, w := range badWheels() {
		sameErrors(t, name, asked(w, []api.Walk{{}}, 7, 0, 0, 0), api.ErrWheel, nil)
		sameErrors(t, name, asked(w, nil, 0, 1, 1, 40), api.ErrWheel, nil)
	}
	for name, l := range badWalks() {
		sameErrors(t, name, asked(wheelW(), l, 9, 0, 0, 0), api.ErrWalk, nil)
		sameErrors(t, name, asked(wheelW(), l, 0, 1, 1, 40), api.ErrWalk, nil)
	}
	far := []api.Walk{walk(1, 1, 0, 0, 0)} // there is no truth
	always := map[string]api.Errno{"Check": api.OK, "Fewest": api.OK}
	sameErrors(t, "no truth", asked(wheelW(), far, 0, 1, 1, 40), api.ErrNone, always)
	always["Tells"], always["Worst"] = api.ErrArg, api.ErrArg
	for _, bad := range []int{-1, 1} {
		sameErrors(t, "no truth and a bad walk", asked(wheelW(), far, bad, 2, 1, 0), api.ErrNone, always)
		sameErrors(t, "no truth and a bad side", asked(wheelW(), far, bad, 1, 0, 0), api.ErrNone, always)
	}
}

// P1, R5, R8: no argument makes a function panic.
func TestAnyArguments(t *testing.T) {
	n := numbers{state: 1}
	pick := func() int { return wide()[n.from(0, len(wide())-1)] }
	for i := range 20000 {
		w := api.Wheel{Full: pick(), Read: pick(), Slip: pick(), Skew: pick(), Circle: pick(), Guess: api.Span{Low: pick(), High: pick()}, Wrong: pick()}
		if i%2 == 0 {
			w = n.wheel()
		}
		var l []api.Walk
		for range n.from(0, 10) {
			l = append(l, walk(pick(), pick(), pick(), pick(), pick()))
			if n.from(0, 3) > 0 && i%2 == 0 {
				l[len(l)-1] = n.right(w, pick()%10000, pick()%10000)
			}
		}
		for call, a := range asked(w, l, pick(), pick(), pick(), pick()) {
			zeroWithError(t, "any", call, a)
		}
	}
}

// R3, R7: nil and empty are the same, and a limit includes its number and counts equal walks.
func TestNumberOfWalks(t *testing.T) {
	for count := range 12 {
		want := api.OK
		if count > api.MaxWalks {
			want = api.ErrWalk
		}
		if e := wheels.Check(wheelW(), slices.Repeat([]api.Walk{walkA()}, count)); e != want {
			t.Errorf("Check of %d walks: %d", count, e)
		}
	}
	empty := asked(wheelW(), []api.Walk{}, 0, 1, 1, 40)
	for call, a := range asked(wheelW(), nil, 0, 1, 1, 40) {
		if b := empty[call]; !slices.Equal(a.numbers, b.numbers) || a.e != b.e {
			t.Errorf("%s of nil = %v; of an empty list %v", call, a, b)
		}
	}
}

// R4: a result is new memory, an argument stays as it was, also behind its end; and no state is kept.
func TestMemory(t *testing.T) {
	kept := []api.Walk{walkA(), walk(1, 1, 0, 0, 0), walkB(), walkB()}
	l := slices.Clone(kept)
	w := wheelW()
	w.Wrong = 1
	first := asked(w, l[:3], 0, 1, -1, 40)
	if !slices.Equal(l, kept) {
		t.Errorf("the walks were changed: %v", l)
	}
	for call, a := range first {
		before := slices.Clone(a.numbers)
		clear(a.numbers)
		_ = append(a.numbers, 1)
		if again := asked(w, l[:3], 0, 1, -1, 40)[call]; !slices.Equal(again.numbers, before) || again.e != a.e {
			t.Errorf("%s = %v, and then %v", call, before, again.numbers)
		}
	}
	if !slices.Equal(l, kept) {
		t.Errorf("the walks were changed: %v", l)
	}
}
