package walks_test

import (
	"fmt"
	"slices"
	"testing"

	"knurl/api"
	"knurl/corners"
	"knurl/walks"
	"knurl/wheels"
)

// some calls a test with tracks and walks of which all elbows can be tried, and with these.
func some(state uint64, times int, try func(n *numbers, t api.Track, walk []api.Point, all [][]int)) {
	each(state, times, 5, 5, func(n *numbers, t api.Track, walk []api.Point) {
		try(n, t, walk, allElbows(t, walk))
	})
}

// answers is what the functions say of a track and a walk, but for examples.
type answers struct {
	many, least  int
	rolls, stuck []int
	e            api.Errno
}

func answersOf(t api.Track, walk []api.Point) answers {
	var a answers
	a.many, a.e = walks.Many(t, walk)
	a.least, _ = walks.Least(t, walk)
	a.rolls, _ = walks.Rolls(t, walk)
	a.stuck, _ = walks.Stuck(t, walk)
	return a
}

func (a answers) same(b answers) bool {
	return a.many == b.many && a.least == b.least && slices.Equal(a.rolls, b.rolls) && slices.Equal(a.stuck, b.stuck) && a.e == b.e
}

// made returns the points that are made of those of a list.
func made(l []api.Point, of func(at api.Point) api.Point) []api.Point {
	var all []api.Point
	for _, at := range l {
		all = append(all, of(at))
	}
	return all
}

// P5.10
func TestPlanimeter(t *testing.T) {
	turned := map[int]int{}
	some(10, 1500, func(_ *numbers, track api.Track, walk []api.Point, all [][]int) {
		area, _ := walks.Area(walk)
		around, _ := walks.Area(track.Points)
		for _, l := range all {
			sweep, e := walks.Sweep(track, walk, l)
			turns, f := walks.Turns(track, walk, l)
			if sweep != area-turns*around || e != api.OK || f != api.OK {
				t.Errorf("Sweep of %v, %v, %v = %d, %d; Turns = %d, %d", track, walk, l, sweep, e, turns, f)
			}
			if around != 0 {
				turned[turns]++
			}
			if turns != 0 && track.Closed == 0 {
				t.Errorf("Turns of %v, %v, %v = %d", track, walk, l, turns)
			}
		}
		if track.Closed == 0 && len(all) > 0 {
			l, e := walks.Rolls(track, walk)
			sameList(t, fmt.Sprint("Rolls of ", track, walk), l, e, []int{area}, api.OK)
		}
	})
	if turned[0] < 1000 || turned[1] < 100 || turned[-1] < 100 {
		t.Errorf("turns %v", turned)
	}
}

// polygon returns a valid polygon that can be a walk, in any sense. It grows from three points, corner by corner.
func (n *numbers) polygon(most int) []api.Point {
	for {
		p := []api.Point{n.point(most), n.point(most), n.point(most)}
		if corners.Check(p) != api.OK {
			continue
		}
		want := n.from(api.MinCorners, api.MaxStops)
		for range 30 {
			if more := slices.Insert(slices.Clone(p), n.from(0, len(p)), n.point(most)); len(p) < want && corners.Check(more) == api.OK {
				p = more
			}
		}
		return p
	}
}

// P5.11, P0.3
func TestPolygons(t *testing.T) {
	n := numbers{state: 11}
	swept, signs := 0, map[bool]int{}
	for range 1500 {
		most := [...]int{2, 5, 20, api.MaxCoord}[n.from(0, 3)]
		p := n.polygon(most)
		twice, _ := corners.Twice(p)
		signs[twice > 0]++
		area, e := walks.Area(p)
		sameInt(t, fmt.Sprint("Area of ", p), area, e, twice, api.OK)
		track := n.track(4, most, p)
		track.Closed = 0
		elbows, e := walks.Elbows(track, p)
		if e != api.OK {
			continue
		}
		l, e := walks.Rolls(track, p)
		sameList(t, fmt.Sprint("Rolls of ", track, p), l, e, []int{twice}, api.OK)
		sweep, e := walks.Sweep(track, p, elbows)
		sameInt(t, fmt.Sprint("Sweep of ", track, p, elbows), sweep, e, twice, api.OK)
		if len(p) > 5 {
			continue
		}
		for _, elbows := range allElbows(track, p) {
			sweep, e := walks.Sweep(track, p, elbows)
			sameInt(t, fmt.Sprint("Sweep of ", track, p, elbows), sweep, e, twice, api.OK)
			swept++
		}
	}
	if swept < 5000 || signs[true] < 300 || signs[false] < 300 {
		t.Errorf("%d elbows, to the left %v", swept, signs)
	}
}

// once returns elbows of so many points that go around a closed track once, to the left, from the place 0. They go ahead if the track itself goes around to the left.
func once(track []api.Point, stops int) []int {
	var elbows []int
	for i := range stops {
		elbows = append(elbows, min(i, len(track)-1))
	}
	if trapezoids(track) < 0 {
		for i, place := range elbows {
			elbows[i] = (len(track) - place) % len(track)
		}
	}
	return elbows
}

// P0.4
func TestPoleInside(t *testing.T) {
	n := numbers{state: 4}
	ahead := map[bool]int{}
	for ahead[true]+ahead[false] < 400 {
		most := [...]int{3, 10, 40}[n.from(0, 2)]
		p, places := n.polygon(most), n.polygon(most)
		twice, _ := corners.Twice(p)
		circle, _ := corners.Twice(places)
		if twice < 0 || twice > api.MaxCount || max(circle, -circle) > api.MaxCount || len(places) > len(p) {
			continue
		}
		ahead[circle > 0]++
		track, elbows := closed(0, api.MaxSquare, places), once(places, len(p))
		sweep, e := walks.Sweep(track, p, elbows)
		if e != api.OK {
			t.Fatalf("Sweep of %v, %v, %v: %d", track, p, elbows, e)
		}
		w := api.Wheel{Full: api.MaxFull, Circle: max(circle, -circle), Guess: span(0, api.MaxCount)}
		start := n.from(0, w.Full-1)
		end := ((start+sweep)%w.Full + w.Full) % w.Full
		side := n.from(0, 1)*2 - 1
		l, e := wheels.Areas(w, []api.Walk{{Sense: 1, Side: side, Inside: 1, Start: start, End: end}})
		sameList(t, fmt.Sprint("Areas of the sweep of ", track, p, elbows), l, e, []int{twice}, api.OK)
	}
	if ahead[true] < 50 || ahead[false] < 50 {
		t.Errorf("ahead: %v", ahead)
	}
}

// P5.12: backwards.
func TestBackwards(t *testing.T) {
	some(12, 800, func(_ *numbers, track api.Track, walk []api.Point, all [][]int) {
		back := backwards(walk)
		area, _ := walks.Area(walk)
		n, e := walks.Area(back)
		sameInt(t, fmt.Sprint("Area of ", back), n, e, -area, api.OK)
		for _, l := range all {
			sweep, _ := walks.Sweep(track, walk, l)
			turns, _ := walks.Turns(track, walk, l)
			n, e := walks.Sweep(track, back, backwards(l))
			sameInt(t, fmt.Sprint("Sweep of ", track, back, backwards(l)), n, e, -sweep, api.OK)
			n, e = walks.Turns(track, back, backwards(l))
			sameInt(t, fmt.Sprint("Turns of ", track, back, backwards(l)), n, e, -turns, api.OK)
		}
		before, after := answersOf(track, walk), answersOf(track, back)
		for i, roll := range after.rolls {
			after.rolls[i] = -roll
		}
		slices.Reverse(after.rolls)
		after.stuck = before.stuck // points are known by other numbers
		if !before.same(after) {
			t.Errorf("%v of %v, %v; backwards, with the other signs: %v", before, track, walk, after)
		}
	})
}

// P5.12: the walk begins at another point.
func TestOtherFirstPoint(t *testing.T) {
	some(112, 800, func(n *numbers, track api.Track, walk []api.Point, all [][]int) {
		at := n.from(0, len(walk)-1)
		later := from(walk, at)
		area, _ := walks.Area(walk)
		a, e := walks.Area(later)
		sameInt(t, fmt.Sprint("Area of ", later), a, e, area, api.OK)
		for _, l := range all {
			sweep, _ := walks.Sweep(track, walk, l)
			turns, _ := walks.Turns(track, walk, l)
			n, e := walks.Sweep(track, later, from(l, at))
			sameInt(t, fmt.Sprint("Sweep of ", track, later, from(l, at)), n, e, sweep, api.OK)
			n, e = walks.Turns(track, later, from(l, at))
			sameInt(t, fmt.Sprint("Turns of ", track, later, from(l, at)), n, e, turns, api.OK)
		}
		before, after := answersOf(track, walk), answersOf(track, later)
		for i, stop := range after.stuck {
			after.stuck[i] = (stop + at) % len(walk)
		}
		slices.Sort(after.stuck)
		if !before.same(after) {
			t.Errorf("%v of %v, %v; %v of %v", before, track, walk, after, later)
		}
	})
}

// P5.13: cut into two.
func TestCut(t *testing.T) {
	each(13, 2000, 3, 8, func(n *numbers, _ api.Track, walk []api.Point) {
		a, b := n.from(0, len(walk)-1), n.from(0, len(walk)-1)
		if a > b {
			a, b = b, a
		}
		area, _ := walks.Area(walk)
		if len(walk) == api.MaxStops && a == b {
			return // the second one would have a point too many
		}
		one, e := walks.Area(walk[a : b+1])
		two, f := walks.Area(slices.Concat(walk[b:], walk[:a+1]))
		if one+two != area || e != api.OK || f != api.OK {
			t.Errorf("Area of %v = %d; cut from %d to %d: %d and %d", walk, area, a, b, one, two)
		}
	})
}

// P5.13: a point that comes twice, or lies on the side between its neighbours.
func TestNeedlessPoint(t *testing.T) {
	each(113, 2000, 3, 7, func(n *numbers, _ api.Track, walk []api.Point) {
		walk = made(walk, func(at api.Point) api.Point { return point(at.X/4*4, at.Y/4*4) })
		area, _ := walks.Area(walk)
		i := n.from(0, len(walk)-1)
		a, b := walk[i], walk[(i+1)%len(walk)]
		for quarter := range 5 {
			more := point(a.X+(b.X-a.X)/4*quarter, a.Y+(b.Y-a.Y)/4*quarter)
			longer := slices.Insert(slices.Clone(walk), i+1, more)
			n, e := walks.Area(longer)
			sameInt(t, fmt.Sprint("Area of ", longer), n, e, area, api.OK)
		}
	})
}

// P5.14
func TestLongerArm(t *testing.T) {
	both, stuck := 0, 0
	each(14, 1500, 7, 6, func(n *numbers, track api.Track, walk []api.Point) {
		more := track
		if track.Closed == 0 && n.from(0, 1) == 0 {
			place := n.point(5)
			more.Points = [...][]api.Point{append(slices.Clone(track.Points), place), append([]api.Point{place}, track.Points...)}[n.from(0, 1)]
		} else {
			more.Arm = span(n.from(0, track.Arm.Low), n.from(track.Arm.High, api.MaxSquare))
		}
		before, after := answersOf(track, walk), answersOf(more, walk)
		if len(before.stuck) > 0 {
			stuck++
			if before.e != api.ErrNone {
				t.Errorf("Many of %v, %v: %d; Stuck = %v", track, walk, before.e, before.stuck)
			}
		}
		if before.e != api.OK {
			return
		}
		both++
		if after.e != api.OK || after.many < before.many || after.least > before.least {
			t.Errorf("%v of %v, %v; %v of %v", before, track, walk, after, more)
		}
		for _, roll := range before.rolls {
			if !slices.Contains(after.rolls, roll) {
				t.Errorf("Rolls of %v, %v = %v; of %v: %v", track, walk, before.rolls, more, after.rolls)
			}
		}
	})
	if both < 500 || stuck < 100 {
		t.Errorf("%d walks have elbows, %d are stuck", both, stuck)
	}
}

// P5.15
func TestFewMoves(t *testing.T) {
	still := map[bool]int{}
	each(15, 1500, 8, 7, func(_ *numbers, track api.Track, walk []api.Point) {
		common := map[int]int{}
		for _, at := range walk {
			l, _ := walks.Reach(track, at)
			for _, place := range l {
				common[place]++
			}
		}
		all := false
		for _, count := range common {
			all = all || count == len(walk)
		}
		least, e := walks.Least(track, walk)
		if e != api.OK && all || e == api.OK && (least == 0) != all {
			t.Errorf("Least of %v, %v = %d, %d", track, walk, least, e)
		}
		if e != api.OK {
			return
		}
		still[all]++
		l, e := walks.Elbows(track, walk)
		sweep, f := walks.Sweep(track, walk, l)
		rolls, _ := walks.Rolls(track, walk)
		if e != api.OK || f != api.OK || trial(track, walk, l).moves != least || !slices.Contains(rolls, sweep) {
			t.Errorf("Elbows of %v, %v = %v, %d; their sweep %d, %d", track, walk, l, e, sweep, f)
		}
	})
	if still[true] < 300 || still[false] < 50 {
		t.Errorf("without a move: %v", still)
	}
}

// P5.16
func TestMoved(t *testing.T) {
	n := numbers{state: 16}
	for range 800 {
		most := [...]int{2, 5, 20, 100}[n.from(0, 3)]
		walk := n.points(1, 5, most)
		track := n.track(5, most, walk)
		x, y := n.from(most-api.MaxCoord, api.MaxCoord-most), n.from(most-api.MaxCoord, api.MaxCoord-most)
		move := func(at api.Point) api.Point { return point(at.X+x, at.Y+y) }
		there, far := track, made(walk, move)
		there.Points = made(track.Points, move)
		before, after := answersOf(track, walk), answersOf(there, far)
		if !before.same(after) {
			t.Errorf("%v of %v, %v; %v of %v, %v", before, track, walk, after, there, far)
		}
		area, _ := walks.Area(walk)
		a, e := walks.Area(far)
		sameInt(t, fmt.Sprint("Area of ", far), a, e, area, api.OK)
		at := n.point(most)
		places, _ := walks.Reach(track, at)
		l, e := walks.Reach(there, move(at))
		sameList(t, fmt.Sprint("Reach of ", there, move(at)), l, e, places, api.OK)
		if elbows, e := walks.Elbows(track, walk); e == api.OK {
			sweep, _ := walks.Sweep(track, walk, elbows)
			turns, _ := walks.Turns(track, walk, elbows)
			n, e := walks.Sweep(there, far, elbows)
			sameInt(t, fmt.Sprint("Sweep of ", there, far, elbows), n, e, sweep, api.OK)
			n, e = walks.Turns(there, far, elbows)
			sameInt(t, fmt.Sprint("Turns of ", there, far, elbows), n, e, turns, api.OK)
		}
	}
}
