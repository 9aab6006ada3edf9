package discord_test

import (
	"fmt"
	"math"
	"math/bits"
	"slices"
	"testing"

	"knurl/api"
	"knurl/corners"
	"knurl/discord"
	"knurl/wheels"
)

// answers is what the functions say of a dispute in numbers.
type answers struct {
	fewest, corners, walks               int
	noFewest, noCorners, noWalks         api.Errno
	areas                                [mostFaults + 1][]int
	blamed, blamedWalks, sure, sureWalks []int
}

func answersOf(d api.Dispute) answers {
	var a answers
	a.fewest, a.noFewest = discord.Fewest(d)
	a.corners, a.noCorners = discord.Corners(d)
	a.walks, a.noWalks = discord.Walks(d)
	for faults := range a.areas {
		a.areas[faults], _ = discord.Areas(d, faults)
	}
	a.blamed, a.blamedWalks, _ = discord.Blamed(d)
	a.sure, a.sureWalks, _ = discord.Sure(d)
	return a
}

// sameNumbers returns whether Fewest, Areas, Corners and Walks are the same.
func (a answers) sameNumbers(b answers) bool {
	for faults := range a.areas {
		if !slices.Equal(a.areas[faults], b.areas[faults]) {
			return false
		}
	}
	return a.fewest == b.fewest && a.corners == b.corners && a.walks == b.walks &&
		a.noFewest == b.noFewest && a.noCorners == b.noCorners && a.noWalks == b.noWalks
}

// hasAll returns whether all numbers of a list are in another one.
func hasAll(l, some []int) bool {
	return !slices.ContainsFunc(some, func(n int) bool { return !slices.Contains(l, n) })
}

// P8.9
func TestEachStory(t *testing.T) {
	many, none := 0, 0
	small(9, 400, func(_ *numbers, d api.Dispute) {
		a := answersOf(d)
		stories := tried(d, math.MaxInt)
		for x := range stories {
			many++
			if a.noFewest != api.OK || x.faults() < a.fewest || !slices.Contains(a.areas[x.faults()], x.area) {
				t.Errorf("%+v is a story of %+v: Fewest = %d, %d; Areas = %v", x, d, a.fewest, a.noFewest, a.areas)
			}
		}
		for faults := range mostFaults + 1 {
			l, e := discord.Areas(d, faults)
			if (e == api.ErrNone) != (a.noFewest == api.ErrNone || faults < a.fewest) || e != api.OK && l != nil {
				t.Errorf("Areas of %+v, %d = %v, %d; Fewest = %d", d, faults, l, e, a.fewest)
			}
		}
		if len(stories) == 0 {
			none++
		}
	})
	if many < 5000 || none < 10 {
		t.Errorf("%d stories, %d disputes without one", many, none)
	}
}

// P8.10
func TestBlame(t *testing.T) {
	nothing, some, sure := 0, 0, 0
	small(10, 1500, func(_ *numbers, d api.Dispute) {
		a := answersOf(d)
		if !hasAll(a.blamed, a.sure) || !hasAll(a.blamedWalks, a.sureWalks) {
			t.Errorf("Sure of %+v: %v, %v; Blamed: %v, %v", d, a.sure, a.sureWalks, a.blamed, a.blamedWalks)
		}
		if len(a.blamed)+len(a.blamedWalks) < a.fewest || len(a.sure)+len(a.sureWalks) > a.fewest || a.fewest == 0 && len(a.blamed)+len(a.blamedWalks) > 0 {
			t.Errorf("Fewest of %+v = %d; Blamed: %v, %v; Sure: %v, %v", d, a.fewest, a.blamed, a.blamedWalks, a.sure, a.sureWalks)
		}
		switch {
		case a.noFewest == api.OK && a.fewest == 0:
			nothing++
		case len(a.sure)+len(a.sureWalks) > 0:
			sure++
		case a.noFewest == api.OK:
			some++
		}
	})
	if nothing < 100 || some < 100 || sure < 100 {
		t.Errorf("%d without a fault, %d with something sure, %d with nothing sure", nothing, sure, some)
	}
}

// P8.11
func TestOneSideAlone(t *testing.T) {
	zero, more := 0, 0
	small(11, 1500, func(_ *numbers, d api.Dispute) {
		a := answersOf(d)
		if a.noFewest != api.OK {
			if a.noCorners == api.OK || a.noWalks == api.OK {
				t.Errorf("%+v: %+v", d, a)
			}
			return
		}
		if a.noCorners == api.OK && a.fewest > a.corners || a.noWalks == api.OK && a.fewest > a.walks {
			t.Errorf("Fewest of %+v = %d; Corners = %d, Walks = %d", d, a.fewest, a.corners, a.walks)
		}
		if (a.fewest == 0) != (a.noCorners == api.OK && a.corners == 0) || (a.fewest == 0) != (a.noWalks == api.OK && a.walks == 0) {
			t.Errorf("Fewest of %+v = %d; Corners = %d, Walks = %d", d, a.fewest, a.corners, a.walks)
		}
		if a.fewest == 0 {
			zero++
		} else if a.noCorners == api.OK && a.noWalks == api.OK && a.fewest < max(a.corners, a.walks) {
			more++
		}
	})
	if zero < 100 || more < 100 {
		t.Errorf("%d without a fault, %d with more ones to one side alone", zero, more)
	}
}

// P8.12
func TestOneWalkMore(t *testing.T) {
	same, greater, fewer := 0, 0, 0
	small(12, 800, func(n *numbers, d api.Dispute) {
		a := answersOf(d)
		more := copied(d)
		k := walk(n.sign(), n.sign(), n.from(0, 1), n.from(0, d.Wheel.Full-1), n.from(0, d.Wheel.Full-1))
		more.Walks = slices.Insert(more.Walks, n.from(0, len(more.Walks)), k)
		b := answersOf(more)
		if b.noFewest != a.noFewest || b.fewest < a.fewest || b.fewest > a.fewest+1 {
			t.Errorf("Fewest of %+v = %d, %d; with one walk more: %d, %d", d, a.fewest, a.noFewest, b.fewest, b.noFewest)
		}
		if a.fewest < b.fewest {
			greater++
		} else {
			same++
		}
		farther := copied(d)
		i := n.from(0, len(d.Offs)-1)
		farther.Offs[i] = n.from(d.Offs[i], api.MaxShift)
		c := answersOf(farther)
		if a.noFewest == api.OK && (c.noFewest != api.OK || c.fewest > a.fewest) {
			t.Errorf("Fewest of %+v = %d, %d; with Offs %v: %d, %d", d, a.fewest, a.noFewest, farther.Offs, c.fewest, c.noFewest)
		}
		for faults := range a.areas {
			if !hasAll(c.areas[faults], a.areas[faults]) {
				t.Errorf("Areas of %+v, %d = %v; with Offs %v: %v", d, faults, a.areas[faults], farther.Offs, c.areas[faults])
			}
		}
		if c.fewest < a.fewest {
			fewer++
		}
	})
	if same < 100 || greater < 100 || fewer < 10 {
		t.Errorf("Fewest was the same %d times, greater %d times, and less with greater Offs %d times", same, greater, fewer)
	}
}

// P8.13
func TestMended(t *testing.T) {
	changed, clockwise := 0, 0
	try := func(_ *numbers, d api.Dispute) {
		p, e := discord.Mend(d)
		least, f := discord.Corners(d)
		if e != f {
			t.Errorf("Mend of %+v: %d; Corners: %d", d, e, f)
		}
		if e != api.OK {
			return
		}
		wrong, ok := wrongCorners(d, p)
		if !ok || corners.Check(p) != api.OK || bits.OnesCount(wrong) != least {
			t.Errorf("Mend of %+v = %v; Corners = %d", d, p, least)
		}
		mended := copied(d)
		mended.Corners = p
		n, e := discord.Fewest(mended)
		if n != 0 || e != api.OK {
			t.Errorf("Fewest of %+v with the corners %v = %d, %d", d, p, n, e)
		}
		changed += min(1, least)
		if twice, _ := corners.Twice(p); twice < 0 && least > 0 {
			clockwise++
		}
	}
	small(13, 800, try)
	large(13, 200, try)
	if changed < 100 || clockwise < 30 {
		t.Errorf("%d changed, %d of them to the right", changed, clockwise)
	}
}

// shuffled returns the same walks in another order.
func (n *numbers) shuffled(l []api.Walk) []api.Walk {
	var other []api.Walk
	for _, k := range l {
		other = slices.Insert(other, n.from(0, len(other)), k)
	}
	return other
}

// P8.14
func TestTurned(t *testing.T) {
	faults := map[int]int{}
	small(14, 400, func(n *numbers, d api.Dispute) {
		a := answersOf(d)
		for i := range d.Corners {
			turned := copied(d)
			turned.Corners = slices.Concat(d.Corners[i:], d.Corners[:i])
			turned.Offs = slices.Concat(d.Offs[i:], d.Offs[:i])
			if b := answersOf(turned); !a.sameNumbers(b) || !slices.Equal(a.blamedWalks, b.blamedWalks) || len(a.blamed) != len(b.blamed) || len(a.sure) != len(b.sure) {
				t.Errorf("%+v: %+v; beginning with the corner %d: %+v", d, a, i, b)
			}
		}
		exchanged := copied(d)
		for i, c := range d.Corners {
			exchanged.Corners[i] = api.Point{X: c.Y, Y: c.X}
		}
		if b := answersOf(exchanged); !a.sameNumbers(b) || fmt.Sprint(a) != fmt.Sprint(b) {
			t.Errorf("%+v: %+v; X and Y exchanged: %+v", d, a, b)
		}
		other := copied(d)
		other.Walks = n.shuffled(d.Walks)
		if b := answersOf(other); !a.sameNumbers(b) || len(a.blamedWalks) != len(b.blamedWalks) || len(a.sureWalks) != len(b.sureWalks) {
			t.Errorf("%+v: %+v; walks in the order %v: %+v", d, a, other.Walks, b)
		}
		faults[a.fewest]++
	})
	if faults[0] < 50 || faults[1] < 50 || faults[2] < 20 {
		t.Errorf("faults %v", faults)
	}
}

// P0.13
func TestFirmCorners(t *testing.T) {
	none, wrong := 0, 0
	try := func(_ *numbers, d api.Dispute) {
		clear(d.Offs)
		area := areaOf(t, d, d.Corners)
		want, wantE := 0, api.ErrNone
		if d.Wheel.Guess.Low <= area && area <= d.Wheel.Guess.High {
			w := d.Wheel
			w.Guess = span(area, area)
			want, wantE = wheels.Fewest(w, d.Walks)
			wrong += min(1, want)
		} else {
			none++
		}
		n, e := discord.Fewest(d)
		same(t, fmt.Sprintf("Fewest of %+v", d), n, e, want, wantE)
		n, e = discord.Walks(d)
		same(t, fmt.Sprintf("Walks of %+v", d), n, e, want, wantE)
	}
	small(113, 400, try)
	large(113, 200, try)
	if none < 20 || wrong < 100 {
		t.Errorf("%d without a story, %d with wrong walks", none, wrong)
	}
}

// P0.14
func TestMendedCorners(t *testing.T) {
	mended := 0
	try := func(_ *numbers, d api.Dispute) {
		d.Wheel.Wrong = 0
		p, e := discord.Mend(d)
		if e != api.OK {
			return
		}
		areas, e := wheels.Areas(d.Wheel, d.Walks)
		if area := areaOf(t, d, p); e != api.OK || !slices.Contains(areas, area) {
			t.Errorf("Mend of %+v = %v, whose area is %d; Areas = %v, %d", d, p, area, areas, e)
		}
		mended++
	}
	small(114, 600, try)
	large(114, 200, try)
	if mended < 200 {
		t.Errorf("only %d mended", mended)
	}
}
