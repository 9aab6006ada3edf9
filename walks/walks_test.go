package walks_test

import (
	"fmt"
	"slices"
	"testing"

	"knurl/api"
	"knurl/walks"
)

// P5.1
func TestCheck(t *testing.T) {
	for name, track := range badTracks() {
		for _, walk := range [][]api.Point{walkA(), nil} {
			if e := walks.Check(track, walk); e != api.ErrTrack {
				t.Errorf("Check of the track %s: %d", name, e)
			}
		}
	}
	for name, walk := range badWalks() {
		for _, track := range []api.Track{trackK(), trackC(), ring()} {
			if e := walks.Check(track, walk); e != api.ErrPath {
				t.Errorf("Check of the walk %s: %d", name, e)
			}
		}
	}
	one := points(-200, 200)
	for i, track := range []api.Track{trackK(), trackC(), ring(), rail(), open(0, 0, one), open(320000, 320000, one), open(5, 5, slices.Repeat(one, 8)), closed(0, 320000, slices.Repeat(one, 3))} {
		for _, walk := range [][]api.Point{walkA(), walkB(), whole(), one, points(200, -200), slices.Repeat(one, 8)} {
			if e := walks.Check(track, walk); e != api.OK {
				t.Errorf("%d: Check with the walk %v: %d", i, walk, e)
			}
		}
	}
}

// The chapter's examples.
func TestExamples(t *testing.T) {
	n, e := walks.Area(walkA())
	sameInt(t, "Area of A", n, e, 8, api.OK)
	n, e = walks.Area(walkB())
	sameInt(t, "Area of B", n, e, 32, api.OK)
	n, e = walks.Area(points(0, 2, 4, 2))
	sameInt(t, "Area of two points", n, e, 0, api.OK)
	for _, x := range []struct {
		at   api.Point
		want []int
	}{{point(0, 2), []int{0, 1}}, {point(4, 2), []int{1, 2}}, {point(9, 9), nil}} {
		l, e := walks.Reach(trackK(), x.at)
		sameList(t, "Reach of K", l, e, x.want, api.OK)
	}
	l, e := walks.Stuck(trackC(), walkA())
	sameList(t, "Stuck of C, A", l, e, []int{0, 1, 2}, api.OK)
	n, e = walks.Many(trackK(), walkA())
	sameInt(t, "Many of K, A", n, e, 9, api.OK)
	l, e = walks.Rolls(trackK(), walkA())
	sameList(t, "Rolls of K, A", l, e, []int{8}, api.OK)
	n, e = walks.Least(trackK(), walkA())
	sameInt(t, "Least of K, A", n, e, 0, api.OK)
	l, e = walks.Elbows(trackK(), walkA())
	sameList(t, "Elbows of K, A", l, e, []int{1, 1, 1, 1}, api.OK)
	n, e = walks.Sweep(trackK(), walkA(), []int{0, 1, 2, 1})
	sameInt(t, "Sweep of K, A", n, e, 8, api.OK)
	n, e = walks.Turns(trackK(), walkA(), []int{0, 1, 2, 1})
	sameInt(t, "Turns of K, A", n, e, 0, api.OK)
	n, e = walks.Sweep(trackC(), walkB(), []int{0, 1, 2, 3})
	sameInt(t, "Sweep of C, B", n, e, 24, api.OK)
	n, e = walks.Turns(trackC(), walkB(), []int{0, 1, 2, 3})
	sameInt(t, "Turns of C, B", n, e, 1, api.OK)
	n, e = walks.Many(trackC(), walkB())
	sameInt(t, "Many of C, B", n, e, 1, api.OK)
	l, e = walks.Rolls(trackC(), walkB())
	sameList(t, "Rolls of C, B", l, e, []int{24}, api.OK)
	n, e = walks.Least(trackC(), walkB())
	sameInt(t, "Least of C, B", n, e, 4, api.OK)
}

// P5.2
func TestArea(t *testing.T) {
	for _, x := range []struct {
		walk []api.Point
		want int
	}{
		{points(7, 9), 0}, {points(7, 9, -3, 5), 0}, {points(7, 9, 7, 9, 7, 9), 0},
		{points(0, 0, 1, 0, 0, 1), 1}, {points(0, 0, 0, 1, 1, 0), -1}, {points(1, 1, 2, 1, 1, 2), 1},
		{points(0, 0, 2, 2, 2, 0, 0, 2), 0},                          // sides that cross
		{points(0, 0, 4, 0, 0, 4, 4, 4), 0},                          // and are as great to both sides
		{points(0, 0, 6, 0, 2, 2, 2, 0), 8},                          // a side on another one
		{points(0, 0, 3, 0, 3, 3, 0, 3, 0, 0, 3, 0, 3, 3, 0, 3), 36}, // around twice
		{points(-200, -200, 200, -200, 200, 200, -200, 200), 320000}, {whole(), 320000}, {backwards(whole()), -320000},
	} {
		n, e := walks.Area(x.walk)
		sameInt(t, fmt.Sprint("Area of ", x.walk), n, e, x.want, api.OK)
	}
	each(2, 3000, 8, 8, func(_ *numbers, _ api.Track, walk []api.Point) {
		n, e := walks.Area(walk)
		sameInt(t, fmt.Sprint("Area of ", walk), n, e, trapezoids(walk), api.OK)
	})
	for name, walk := range badWalks() {
		n, e := walks.Area(walk)
		sameInt(t, "Area of "+name, n, e, 0, api.ErrPath)
	}
}

// P5.3, P5.4
func TestReach(t *testing.T) {
	far := points(-200, -200, 0, 0, 200, 200)
	for i, x := range []struct {
		track api.Track
		at    api.Point
		want  []int
	}{
		{open(0, 0, far), point(200, 200), []int{2}}, {open(0, 0, far), point(200, 199), nil}, {open(1, 1, far), point(200, 199), []int{2}},
		{open(320000, 320000, far), point(200, 200), []int{0}}, {open(0, 319999, far), point(200, 200), []int{1, 2}}, {open(0, 320000, far), point(200, 200), []int{0, 1, 2}},
		{open(80000, 320000, far), point(200, 200), []int{0, 1}}, {open(80001, 320000, far), point(200, 200), []int{0}}, {closed(80000, 80000, far), point(0, 0), []int{0, 2}},
		{open(25, 25, points(0, 0, 0, 0, 1, 0, 6, 8)), point(3, 4), []int{0, 1, 3}}, {open(25, 25, points(3, 4, -3, 4, 3, -4, -4, -3, 5, 0, 0, -5, 4, 4)), point(0, 0), []int{0, 1, 2, 3, 4, 5}},
	} {
		l, e := walks.Reach(x.track, x.at)
		sameList(t, fmt.Sprint(i, ": Reach"), l, e, x.want, api.OK)
	}
	stuck, free := 0, 0
	each(3, 3000, 8, 8, func(_ *numbers, track api.Track, walk []api.Point) {
		var want []int
		for i, at := range walk {
			var places []int
			for place := range track.Points {
				if reached(track, place, at) {
					places = append(places, place)
				}
			}
			l, e := walks.Reach(track, at)
			sameList(t, fmt.Sprint("Reach of ", track, at), l, e, places, api.OK)
			if len(places) == 0 {
				want = append(want, i)
				stuck++
			} else {
				free++
			}
		}
		l, e := walks.Stuck(track, walk)
		sameList(t, fmt.Sprint("Stuck of ", track, walk), l, e, want, api.OK)
	})
	if stuck < 500 || free < 500 {
		t.Errorf("%d points are stuck, %d are not", stuck, free)
	}
}

// P5.5: each list of numbers is refused, or does what trial says.
func TestSweepAndTurns(t *testing.T) {
	count, turned := map[bool]int{}, map[int]int{}
	each(5, 600, 4, 5, func(_ *numbers, track api.Track, walk []api.Point) {
		lists(len(walk), -1, len(track.Points), func(l []int) {
			want, wantE := trip{}, api.ErrArg
			if areElbows(track, walk, l) {
				want, wantE = trial(track, walk, l), api.OK
			}
			sweep, e := walks.Sweep(track, walk, l)
			turns, f := walks.Turns(track, walk, l)
			if sweep != want.sweep || e != wantE || turns != want.turns || f != wantE {
				t.Errorf("Sweep of %v, %v, %v = %d, %d, Turns = %d, %d; want %d, %d, %d", track, walk, l, sweep, e, turns, f, want.sweep, want.turns, wantE)
			}
			count[e == api.OK]++
			turned[turns]++
		})
	})
	if count[true] < 5000 || count[false] < 5000 || turned[1] < 50 || turned[-1] < 50 {
		t.Errorf("%v, turns %v", count, turned)
	}
	for name, l := range badElbows() {
		n, e := walks.Sweep(trackK(), walkA(), l)
		sameInt(t, "Sweep of "+name, n, e, 0, api.ErrArg)
		n, e = walks.Turns(trackK(), walkA(), l)
		sameInt(t, "Turns of "+name, n, e, 0, api.ErrArg)
	}
}

// P5.5: around more than once, over the end of a list of places in both directions, and with the greatest numbers.
func TestTurns(t *testing.T) {
	three := closed(0, api.MaxSquare, points(0, 0, 1, 0, 0, 1))
	twice := points(0, 0, 9, 0, 9, 9, 0, 0, 9, 0, 9, 9)
	for _, x := range []struct {
		track                api.Track
		walk                 []api.Point
		elbows               []int
		sweep, turns, refuse int
	}{
		{three, twice, []int{0, 1, 2, 0, 1, 2}, 162 - 2, 2, 0}, {three, twice, []int{2, 1, 0, 2, 1, 0}, 162 + 2, -2, 0}, {three, twice, []int{0, 2, 0, 2, 1, 2}, 162, 0, 0}, {three, twice, []int{1, 2, 0, 0, 0, 0}, 162 - 1, 1, 0},
		{three, points(5, 5), []int{2}, 0, 0, 0}, {three, points(5, 5, 7, 5), []int{0, 2}, 0, 0, 0},
		{ring(), whole(), []int{0, 1, 2, 3, 4, 5, 6, 7}, 0, 1, 0}, {ring(), backwards(whole()), []int{0, 1, 2, 3, 4, 5, 6, 7}, -640000, 1, 0}, {ring(), whole(), []int{0, 7, 6, 5, 4, 3, 2, 1}, 640000, -1, 0}, {ring(), whole(), []int{7, 0, 7, 0, 7, 0, 7, 0}, 320000, 0, 0},
		{rail(), whole(), []int{0, 1, 2, 3, 3, 2, 1, 0}, 320000, 0, 0}, {rail(), whole(), []int{0, 1, 2, 3, 4, 5, 6, 7}, 0, 0, 1}, {rail(), whole(), []int{7, 7, 7, 7, 7, 7, 7, 6}, 320000, 0, 0}, {rail(), whole(), []int{7, 7, 7, 7, 7, 7, 7, 0}, 0, 0, 1},
		{open(0, 0, points(3, 3)), points(3, 3, 3, 3), []int{0, 0}, 0, 0, 0}, {open(0, 9, points(3, 3, 3, 3)), points(3, 3, 3, 4), []int{0, 1}, 0, 0, 0},
	} {
		want := api.OK
		if x.refuse == 1 {
			want = api.ErrArg
		}
		n, e := walks.Sweep(x.track, x.walk, x.elbows)
		sameInt(t, fmt.Sprint("Sweep of ", x.track, x.walk, x.elbows), n, e, x.sweep, want)
		n, e = walks.Turns(x.track, x.walk, x.elbows)
		sameInt(t, fmt.Sprint("Turns of ", x.track, x.walk, x.elbows), n, e, x.turns, want)
	}
}

// sameAnswers compares Many, Rolls, Least and Elbows with what is known.
func sameAnswers(t *testing.T, track api.Track, walk []api.Point, k known) {
	t.Helper()
	call := fmt.Sprint(" of ", track, walk)
	n, e := walks.Many(track, walk)
	sameInt(t, "Many"+call, n, e, k.many, k.error())
	l, e := walks.Rolls(track, walk)
	sameList(t, "Rolls"+call, l, e, k.rolls, k.error())
	n, e = walks.Least(track, walk)
	sameInt(t, "Least"+call, n, e, k.least, k.error())
	l, e = walks.Elbows(track, walk)
	if k.many == 0 {
		sameList(t, "Elbows"+call, l, e, nil, api.ErrNone)
		return
	}
	if e != api.OK || !areElbows(track, walk, l) || trial(track, walk, l).moves != k.least {
		t.Errorf("Elbows%s = %v, %d; Least is %d", call, l, e, k.least)
	}
}

// P5.6, P5.7, P5.8, P5.9: as all lists of places say, on small tracks.
func TestAllElbows(t *testing.T) {
	each(6, 2000, 4, 5, func(_ *numbers, track api.Track, walk []api.Point) {
		k := known{least: len(walk)}
		for _, l := range allElbows(track, walk) {
			x := trial(track, walk, l)
			k.many++
			k.least = min(k.least, x.moves)
			k.rolls = append(k.rolls, x.sweep)
		}
		if k.many == 0 {
			k = known{}
		}
		slices.Sort(k.rolls)
		k.rolls = slices.Compact(k.rolls)
		sameAnswers(t, track, walk, k)
	})
}

// P5.6, P5.7, P5.8, P5.9: as counting says, on tracks of all sizes.
func TestCounted(t *testing.T) {
	none, some, moves, rolls := 0, 0, map[int]int{}, map[int]int{}
	each(7, 800, 8, 8, func(_ *numbers, track api.Track, walk []api.Point) {
		k := counted(track, walk)
		sameAnswers(t, track, walk, k)
		if k.many == 0 {
			none++
			return
		}
		some++
		moves[k.least]++
		rolls[len(k.rolls)]++
	})
	if none < 100 || some < 300 || moves[0] < 100 || moves[2] < 30 || moves[4] < 5 || rolls[1] < 100 || rolls[3] < 20 || rolls[5] < 5 {
		t.Errorf("%d have none, %d have some; moves %v; rolls %v", none, some, moves, rolls)
	}
}

// P5.6, P5.7, P5.8: with as many places and points as there can be, of which all are reached.
func TestGreatest(t *testing.T) {
	for _, x := range []struct {
		track       api.Track
		walk        []api.Point
		many, least int
		rolls       []int
	}{
		{ring(), whole(), 8872, 0, []int{0, 320000, 640000}},
		{rail(), whole(), 6682, 0, []int{320000}},
		{open(0, api.MaxSquare, points(1, 2)), whole(), 1, 0, []int{320000}},
		{closed(0, api.MaxSquare, points(0, 0, 1, 0, 0, 1)), whole(), 6561, 0, []int{319998, 319999, 320000, 320001, 320002}},
		{ring(), points(7, 7), 8, 0, []int{0}}, {ring(), points(7, 7, 9, 9), 24, 0, []int{0}}, {rail(), points(7, 7, 9, 9), 22, 0, []int{0}},
	} {
		call := fmt.Sprint(" of ", x.track, x.walk)
		sameAnswers(t, x.track, x.walk, counted(x.track, x.walk))
		n, e := walks.Many(x.track, x.walk)
		sameInt(t, "Many"+call, n, e, x.many, api.OK)
		n, e = walks.Least(x.track, x.walk)
		sameInt(t, "Least"+call, n, e, x.least, api.OK)
		l, e := walks.Rolls(x.track, x.walk)
		sameList(t, "Rolls"+call, l, e, x.rolls, api.OK)
	}
}

// P5.8, P5.9: where the elbow has to move, and where it cannot come back in time.
func TestLeast(t *testing.T) {
	four := points(0, 0, 10, 0, 20, 0, 30, 0)
	for i, x := range []struct {
		track  api.Track
		walk   []api.Point
		least  int
		elbows []int
		e      api.Errno
	}{
		{open(1, 1, four), points(0, 1, 10, 1, 20, 1, 30, 1, 20, 1, 10, 1), 6, []int{0, 1, 2, 3, 2, 1}, api.OK},
		{open(1, 1, four), points(0, 1, 10, 1, 20, 1, 30, 1), 0, nil, api.ErrNone}, // not back from the last place to the first one
		{closed(1, 1, four), points(0, 1, 10, 1, 20, 1, 30, 1), 4, []int{0, 1, 2, 3}, api.OK},
		{closed(1, 1, four), points(0, 1, 30, 1), 2, []int{0, 3}, api.OK},
		{closed(1, 1, four[:3]), points(0, 1, 10, 1, 20, 1), 3, []int{0, 1, 2}, api.OK},
		{closed(1, 1, four[:3]), points(0, 1, 20, 1, 10, 1), 3, []int{0, 2, 1}, api.OK},
		{open(1, 1, four), points(0, 1, 30, 1), 0, nil, api.ErrNone},
		{open(1, 1, four), points(0, 1, 20, 1), 0, nil, api.ErrNone},
		{closed(1, 1, four), points(0, 1, 20, 1), 0, nil, api.ErrNone},
		{open(1, 1, four), points(10, 1, 10, -1, 20, 1, 20, -1), 2, []int{1, 1, 2, 2}, api.OK},
		{open(1, 1, four), points(30, 1), 0, []int{3}, api.OK},
		{open(1, 1, four), points(5, 1), 0, nil, api.ErrNone},
		{open(1, 1, four), points(0, 1, 5, 1, 0, 1), 0, nil, api.ErrNone},
	} {
		n, e := walks.Least(x.track, x.walk)
		sameInt(t, fmt.Sprint(i, ": Least"), n, e, x.least, x.e)
		l, e := walks.Elbows(x.track, x.walk)
		sameList(t, fmt.Sprint(i, ": Elbows"), l, e, x.elbows, x.e)
		many, e := walks.Many(x.track, x.walk)
		want := 1
		if x.e != api.OK {
			want = 0
		}
		sameInt(t, fmt.Sprint(i, ": Many"), many, e, want, x.e)
	}
}
