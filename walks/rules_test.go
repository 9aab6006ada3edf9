package walks_test

import (
	"slices"
	"testing"

	"knurl/api"
	"knurl/walks"
)

// answer is what a function returns, each number of it, and its error.
type answer struct {
	numbers []int
	e       api.Errno
}

func one(n int, e api.Errno) answer    { return answer{[]int{n}, e} }
func list(l []int, e api.Errno) answer { return answer{l, e} }

// arguments is what functions are asked for.
type arguments struct {
	track  api.Track
	walk   []api.Point
	at     api.Point
	elbows []int
}

func valid() arguments {
	return arguments{track: trackK(), walk: walkA(), at: point(0, 2), elbows: []int{0, 1, 2, 1}}
}

// stuck is valid, but no elbows are elbows of the walk.
func stuck() arguments {
	return arguments{track: trackC(), walk: walkA(), at: point(0, 2), elbows: []int{0, 1, 2, 3}}
}

// with returns arguments of which some are changed.
func with(x arguments, change func(x *arguments)) arguments {
	change(&x)
	return x
}

// asked returns what all functions answer.
func asked(x arguments) map[string]answer {
	return map[string]answer{
		"Check":  {nil, walks.Check(x.track, x.walk)},
		"Area":   one(walks.Area(x.walk)),
		"Reach":  list(walks.Reach(x.track, x.at)),
		"Stuck":  list(walks.Stuck(x.track, x.walk)),
		"Sweep":  one(walks.Sweep(x.track, x.walk, x.elbows)),
		"Turns":  one(walks.Turns(x.track, x.walk, x.elbows)),
		"Many":   one(walks.Many(x.track, x.walk)),
		"Rolls":  list(walks.Rolls(x.track, x.walk)),
		"Least":  one(walks.Least(x.track, x.walk)),
		"Elbows": list(walks.Elbows(x.track, x.walk)),
	}
}

// sameErrors fails the test unless all functions return an error, but for those that are listed with another one, and with each error zero values alone.
func sameErrors(t *testing.T, name string, x arguments, want api.Errno, but map[string]api.Errno) {
	t.Helper()
	for call, a := range asked(x) {
		wanted, other := but[call]
		if !other {
			wanted = want
		}
		if a.e != wanted {
			t.Errorf("%s of %s: %d, want %d", call, name, a.e, wanted)
		}
		zeroWithError(t, name, call, a)
	}
}

func zeroWithError(t *testing.T, name, call string, a answer) {
	t.Helper()
	if a.e != api.OK && (slices.ContainsFunc(a.numbers, func(n int) bool { return n != 0 }) || len(a.numbers) > 1) {
		t.Errorf("%s of %s = %v with the error %d", call, name, a.numbers, a.e)
	}
}

// R1, R2: ErrTrack, then ErrPath, then ErrArg, then ErrNone.
func TestOrderOfErrors(t *testing.T) {
	ok := map[string]api.Errno{}
	sameErrors(t, "valid arguments", valid(), api.OK, ok)
	for name, track := range badTracks() {
		sameErrors(t, name, with(valid(), func(x *arguments) { x.track = track }), api.ErrTrack, map[string]api.Errno{"Area": api.OK})
		worst := arguments{track: track, at: point(201, 0)}
		sameErrors(t, name, worst, api.ErrTrack, map[string]api.Errno{"Area": api.ErrPath})
	}
	for name, walk := range badWalks() {
		for _, x := range []arguments{valid(), stuck()} {
			sameErrors(t, name, with(x, func(x *arguments) { x.walk = walk }), api.ErrPath, map[string]api.Errno{"Reach": api.OK})
			sameErrors(t, name, with(x, func(x *arguments) { x.walk, x.at, x.elbows = walk, point(0, -201), nil }), api.ErrPath, map[string]api.Errno{"Reach": api.ErrArg})
		}
	}
	for _, at := range badPoints() {
		sameErrors(t, "a bad point", with(valid(), func(x *arguments) { x.at = at }), api.OK, map[string]api.Errno{"Reach": api.ErrArg})
	}
	for name, l := range badElbows() {
		sameErrors(t, name, with(valid(), func(x *arguments) { x.elbows = l }), api.OK, map[string]api.Errno{"Sweep": api.ErrArg, "Turns": api.ErrArg})
	}
	sameErrors(t, "a walk without elbows", stuck(), api.ErrNone, map[string]api.Errno{
		"Check": api.OK, "Area": api.OK, "Reach": api.OK, "Stuck": api.OK, "Sweep": api.ErrArg, "Turns": api.ErrArg,
	})
}

// P1, R5, R8: no argument makes a function panic.
func TestAnyArguments(t *testing.T) {
	n := numbers{state: 1}
	pick := func() int { return wide()[n.from(0, len(wide())-1)] }
	for i := range 6000 {
		x := arguments{walk: n.points(1, 8, 5), at: point(pick(), pick())}
		x.track = n.track(8, 5, x.walk)
		switch i % 4 {
		case 0:
			x.track.Arm = span(pick(), pick())
		case 1:
			x.track.Closed = pick()
		case 2:
			for range n.from(0, 9) {
				x.walk = append(x.walk, point(pick(), pick()))
			}
		}
		for i%8 > 3 && n.from(0, 2) > 0 {
			x.track.Points = append(x.track.Points, point(pick(), pick()))
		}
		for range n.from(0, 9) {
			x.elbows = append(x.elbows, pick())
		}
		for call, a := range asked(x) {
			zeroWithError(t, "any", call, a)
		}
	}
}

// R3, R7: nil and empty are the same, and a limit includes its number and counts equal points.
func TestNumberOfPoints(t *testing.T) {
	for count := range 12 {
		for is := range 2 {
			want := api.OK
			if count > api.MaxTrack || count < [...]int{1, 3}[is] {
				want = api.ErrTrack
			}
			track := api.Track{Points: slices.Repeat(points(1, 1), count), Closed: is, Arm: span(0, 9)}
			if e := walks.Check(track, walkA()); e != want {
				t.Errorf("Check of %d places, Closed %d: %d", count, is, e)
			}
		}
		want := api.OK
		if count > api.MaxStops || count < 1 {
			want = api.ErrPath
		}
		if e := walks.Check(trackK(), slices.Repeat(points(1, 1), count)); e != want {
			t.Errorf("Check of %d points: %d", count, e)
		}
	}
	empty := arguments{track: open(0, 0, []api.Point{}), walk: []api.Point{}, elbows: []int{}}
	var none arguments
	for call, a := range asked(empty) {
		if b := asked(none)[call]; a.e != b.e {
			t.Errorf("%s of empty lists: %d; of nil: %d", call, a.e, b.e)
		}
	}
}

// R4: a result is new memory, an argument stays as it was, also behind its end; and no state is kept.
func TestMemory(t *testing.T) {
	places, stops, elbows := append(trackK().Points, point(7, 7)), append(walkA(), point(7, 7)), []int{0, 1, 2, 1, 7}
	x := valid()
	x.track.Points, x.walk, x.elbows = slices.Clone(places)[:3], slices.Clone(stops)[:4], slices.Clone(elbows)[:4]
	for call, a := range asked(x) {
		before := slices.Clone(a.numbers)
		clear(a.numbers)
		_ = append(a.numbers, 1)
		if again := asked(x)[call]; !slices.Equal(again.numbers, before) || again.e != a.e {
			t.Errorf("%s = %v, and then %v", call, before, again.numbers)
		}
	}
	if !slices.Equal(x.track.Points[:4], places) || !slices.Equal(x.walk[:5], stops) || !slices.Equal(x.elbows[:5], elbows) {
		t.Errorf("an argument was changed: %v, %v, %v", x.track.Points[:4], x.walk[:5], x.elbows[:5])
	}
}
