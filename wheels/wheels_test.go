package wheels_test

import (
	"slices"
	"strconv"
	"testing"

	"knurl/api"
	"knurl/wheels"
)

// P3.1
func TestCheck(t *testing.T) {
	for name, w := range badWheels() {
		for _, l := range [][]api.Walk{nil, {walkA()}, {{}}} { // the wheel comes first
			if e := wheels.Check(w, l); e != api.ErrWheel {
				t.Errorf("Check of the wheel %s: %d", name, e)
			}
		}
	}
	for name, l := range badWalks() {
		if e := wheels.Check(wheelW(), l); e != api.ErrWalk {
			t.Errorf("Check of the walks %s: %d", name, e)
		}
	}
	least := api.Wheel{Full: 10}
	last := widest()
	last.Wrong = api.MaxWalks
	last.Guess.Low = api.MaxCount
	for _, x := range []struct {
		w api.Wheel
		l []api.Walk
	}{
		{wheelW(), nil}, {wheelW(), []api.Walk{}}, {wheelW(), []api.Walk{walkA(), walkB()}},
		{least, []api.Walk{walk(1, 1, 0, 0, 9), walk(-1, -1, 1, 9, 0)}},
		{widest(), slices.Repeat([]api.Walk{walk(-1, 1, 1, 9999, 9999)}, 8)},
		{last, slices.Repeat([]api.Walk{walk(1, -1, 1, 0, 9999)}, 8)},
	} {
		if e := wheels.Check(x.w, x.l); e != api.OK {
			t.Errorf("Check of %v, %v: %d", x.w, x.l, e)
		}
	}
	if e := wheels.Check(least, []api.Walk{walk(1, 1, 0, 10, 0)}); e != api.ErrWalk {
		t.Errorf("Check of a reading that is Full: %d", e)
	}
}

// The chapter's examples.
func TestExamples(t *testing.T) {
	one, both := []api.Walk{walkA()}, []api.Walk{walkA(), walkB()}
	for _, x := range []struct {
		w            api.Wheel
		l            []api.Walk
		many         int
		areas, skews []int
	}{
		{wheelW(), one, 5, []int{50, 51, 52, 53, 54}, []int{-2, -1, 0, 1, 2}},
		{wheelW(), both, 1, []int{53}, []int{-1}},
		{wheelV(), both, 12, []int{51, 52, 53, 54, 55}, []int{-2, -1, 0, 1}},
	} {
		n, e := wheels.Many(x.w, x.l)
		sameInt(t, "Many", n, e, x.many, api.OK)
		areas, e := wheels.Areas(x.w, x.l)
		sameList(t, "Areas", areas, e, x.areas, api.OK)
		skews, e := wheels.Skews(x.w, x.l)
		sameList(t, "Skews", skews, e, x.skews, api.OK)
		b, e := wheels.Bound(x.w, x.l)
		sameSpan(t, "Bound", b, e, api.Span{Low: x.areas[0], High: x.areas[len(x.areas)-1]}, api.OK)
	}
	told, e := wheels.Tells(wheelW(), both, 1)
	sameList(t, "Tells", told, e, []int{52, 53, 54, 55, 56}, api.OK)
	n, e := wheels.Worst(wheelW(), one, 1, 1)
	sameInt(t, "Worst", n, e, 5, api.OK)
	n, e = wheels.Worst(wheelW(), one, 1, -1)
	sameInt(t, "Worst", n, e, 1, api.OK)
	sense, side, e := wheels.Next(wheelW(), one)
	if sense != 1 || side != -1 || e != api.OK {
		t.Errorf("Next = %d, %d, %d", sense, side, e)
	}
	n, e = wheels.Fewest(wheelW(), []api.Walk{walkA(), walk(1, 1, 0, 10, 70)})
	sameInt(t, "Fewest", n, e, 1, api.OK)
}

// What a walk is right for, number by number: which way a slip, a skew, the circle, and an error of the readings count.
func TestRight(t *testing.T) {
	base := api.Wheel{Full: 100, Guess: api.Span{Low: 20, High: 80}}
	with := func(change func(w *api.Wheel)) api.Wheel {
		w := base
		change(&w)
		return w
	}
	slip := with(func(w *api.Wheel) { w.Slip = 3 })
	read := with(func(w *api.Wheel) { w.Read = 1 })
	circle := with(func(w *api.Wheel) { w.Circle = 107 })
	short := with(func(w *api.Wheel) { w.Full = 25 })
	shorter := with(func(w *api.Wheel) { w.Full = 10; w.Slip = 2; w.Guess.High = 35 })
	loose := with(func(w *api.Wheel) { w.Full = 10; w.Slip = 5; w.Read = 1; w.Guess.High = 23 })
	nearly := with(func(w *api.Wheel) { w.Full = 10; w.Slip = 4; w.Read = 1; w.Guess.High = 30 })
	for i, x := range []struct {
		w    api.Wheel
		k    api.Walk
		want []int
	}{
		{base, walk(1, 1, 0, 0, 50), []int{50}},
		{base, walk(1, -1, 0, 80, 30), []int{50}},
		{base, walk(-1, 1, 0, 30, 80), []int{50}},
		{base, walk(-1, -1, 0, 60, 10), []int{50}},
		{base, walk(1, 1, 1, 0, 50), []int{50}}, // a circle of 0
		{slip, walk(1, 1, 0, 0, 50), []int{50, 51, 52, 53}},
		{slip, walk(-1, 1, 0, 50, 0), []int{50, 51, 52, 53}},
		{slip, walk(1, 1, 0, 0, 19), []int{20, 21, 22}},
		{slip, walk(1, 1, 0, 0, 79), []int{79, 80}},
		{read, walk(1, 1, 0, 0, 50), []int{48, 49, 50, 51, 52}},
		{read, walk(-1, -1, 0, 50, 0), []int{48, 49, 50, 51, 52}},
		{circle, walk(1, 1, 1, 50, 0), []int{57}},
		{circle, walk(-1, 1, 1, 0, 50), []int{57}},
		{circle, walk(1, 1, 0, 0, 50), []int{50}},
		{short, walk(1, 1, 0, 0, 7), []int{32, 57}},
		{short, walk(-1, 1, 0, 0, 7), []int{43, 68}},
		{shorter, walk(1, 1, 0, 9, 0), []int{21, 22, 23, 31, 32, 33}},
		{shorter, walk(-1, 1, 0, 9, 0), []int{20, 21, 29, 30, 31}},
		{nearly, walk(1, 1, 0, 0, 4), []int{20, 22, 23, 24, 25, 26, 27, 28, 29, 30}},
		{loose, walk(1, 1, 0, 3, 8), []int{20, 21, 22, 23}},
	} {
		areas, e := wheels.Areas(x.w, []api.Walk{x.k})
		sameList(t, "Areas of the row "+strconv.Itoa(i), areas, e, x.want, api.OK)
	}
	skewed := with(func(w *api.Wheel) { w.Skew = 20; w.Guess = api.Span{Low: 50, High: 50} })
	for _, x := range []struct {
		k    api.Walk
		want int
	}{
		{walk(1, 1, 0, 0, 57), 7}, {walk(1, -1, 0, 0, 57), -7}, {walk(-1, 1, 0, 57, 0), -7}, {walk(-1, -1, 0, 57, 0), 7}, {walk(1, 1, 0, 0, 70), 20}, {walk(1, -1, 0, 0, 70), -20},
	} {
		skews, e := wheels.Skews(skewed, []api.Walk{x.k})
		sameList(t, "Skews", skews, e, []int{x.want}, api.OK)
	}
	skews, e := wheels.Skews(skewed, []api.Walk{walk(1, 1, 0, 0, 71)})
	sameList(t, "Skews", skews, e, nil, api.ErrNone)
}

// P3.2 to P3.7, P3.9 and P3.10, against everything tried, one by one.
func TestTried(t *testing.T) {
	none, several, strange := 0, 0, 0
	each(1, 3000, func(_ *numbers, w api.Wheel, l []api.Walk) {
		x := tried(w, l)
		f := x.error()
		n, e := wheels.Fewest(w, l)
		sameInt(t, "Fewest", n, e, x.fewest, api.OK)
		n, e = wheels.Many(w, l)
		sameInt(t, "Many", n, e, len(x.truths), f)
		areas, e := wheels.Areas(w, l)
		sameList(t, "Areas", areas, e, x.areas, f)
		skews, e := wheels.Skews(w, l)
		sameList(t, "Skews", skews, e, x.skews, f)
		b, e := wheels.Bound(w, l)
		worst := api.Span{}
		sense, side := 0, 0
		if f == api.OK {
			worst = api.Span{Low: slices.Min(x.areas), High: slices.Max(x.areas)}
			sense, side = x.next()[0], x.next()[1]
		} else {
			x.strange = nil
			none++
		}
		sameSpan(t, "Bound", b, e, worst, f)
		odd, e := wheels.Strange(w, l)
		sameList(t, "Strange", odd, e, x.strange, f)
		for i, areas := range x.tells {
			want := api.OK
			if len(areas) == 0 {
				want = api.ErrNone
			}
			got, e := wheels.Tells(w, l, i)
			sameList(t, "Tells", got, e, areas, want)
		}
		for _, k := range kinds() {
			n, e := wheels.Worst(w, l, k[0], k[1])
			sameInt(t, "Worst", n, e, x.worst[k], f)
		}
		gotSense, gotSide, e := wheels.Next(w, l)
		if gotSense != sense || gotSide != side || e != f {
			t.Errorf("Next of %v, %v = %d, %d, %d; want %d, %d, %d", w, l, gotSense, gotSide, e, sense, side, f)
		}
		if t.Failed() {
			t.Fatalf("of %v, %v", w, l)
		}
		several += min(1, max(0, len(x.truths)-1))
		strange += min(1, len(x.strange))
	})
	if none < 100 || several < 1000 || strange < 100 {
		t.Errorf("only %d without a truth, %d with several ones, %d with strange walks", none, several, strange)
	}
}

// P3.2: Wrong does not matter, and without truths there is no ErrNone.
func TestFewest(t *testing.T) {
	far := walk(1, 1, 0, 0, 0) // tells 100 or 0, which are no areas of Guess
	for _, x := range []struct {
		l    []api.Walk
		want int
	}{
		{nil, 0}, {[]api.Walk{walkA()}, 0}, {[]api.Walk{walkA(), walkB()}, 0}, {[]api.Walk{far}, 1}, {[]api.Walk{far, far, far}, 3}, {[]api.Walk{far, walkA(), far}, 2},
		{slices.Repeat([]api.Walk{far}, 8), 8},
		{[]api.Walk{walk(1, 1, 0, 0, 50), walk(1, 1, 0, 0, 51), walk(1, 1, 0, 0, 51)}, 1},
	} {
		for wrong := 0; wrong <= api.MaxWalks; wrong++ {
			w := wheelW()
			w.Wrong = wrong
			n, e := wheels.Fewest(w, x.l)
			sameInt(t, "Fewest", n, e, x.want, api.OK)
			many, e := wheels.Many(w, x.l)
			if (e == api.ErrNone) != (wrong < x.want) || (many > 0) != (e == api.OK) {
				t.Errorf("Many of %v, %d wrong = %d, %d", x.l, wrong, many, e)
			}
		}
	}
}

// P3.3 to P3.6: without walks, and with so many wrong ones that none matters, everything is a truth.
func TestEverything(t *testing.T) {
	w := wheelW()
	w.Wrong = 2
	for _, l := range [][]api.Walk{nil, {}, {walkA()}, {walk(1, 1, 0, 0, 0), walk(1, 1, 0, 0, 1)}} {
		n, e := wheels.Many(w, l)
		sameInt(t, "Many", n, e, 21*5, api.OK)
		b, e := wheels.Bound(w, l)
		sameSpan(t, "Bound", b, e, api.Span{Low: 40, High: 60}, api.OK)
		areas, e := wheels.Areas(w, l)
		if len(areas) != 21 || e != api.OK {
			t.Errorf("Areas = %v, %d", areas, e)
		}
		skews, e := wheels.Skews(w, l)
		sameList(t, "Skews", skews, e, []int{-2, -1, 0, 1, 2}, api.OK)
	}
	odd, e := wheels.Strange(w, []api.Walk{walk(1, 1, 0, 0, 0), walkA(), walk(1, 1, 0, 0, 1)})
	sameList(t, "Strange", odd, e, []int{0, 2}, api.OK)
	odd, e = wheels.Strange(w, nil)
	sameList(t, "Strange", odd, e, nil, api.OK)
}

// P3.7: the other walks and Wrong do not matter.
func TestTells(t *testing.T) {
	far := walk(1, 1, 0, 0, 0)
	for wrong := 0; wrong <= api.MaxWalks; wrong++ {
		w := wheelW()
		w.Wrong = wrong
		for _, l := range [][]api.Walk{{walkA()}, {walkA(), far}, {walkA(), far, far, walkB()}, {walkA(), walkB(), walk(1, 1, 0, 0, 50)}} {
			told, e := wheels.Tells(w, l, 0)
			sameList(t, "Tells", told, e, []int{50, 51, 52, 53, 54}, api.OK)
		}
		told, e := wheels.Tells(w, []api.Walk{walkA(), far}, 1)
		sameList(t, "Tells", told, e, nil, api.ErrNone)
		for _, bad := range []int{-1, 2, 8, 1000} {
			told, e := wheels.Tells(w, []api.Walk{walkA(), far}, bad)
			sameList(t, "Tells", told, e, nil, api.ErrArg)
		}
		told, e = wheels.Tells(w, nil, 0)
		sameList(t, "Tells", told, e, nil, api.ErrArg)
	}
}

// P3.3, P3.4, P3.9 and P3.10 with the greatest numbers.
func TestGreatest(t *testing.T) {
	w := widest()
	l := slices.Repeat([]api.Walk{walk(1, 1, 0, 0, 5000)}, 8)
	b, e := wheels.Bound(w, l)
	sameSpan(t, "Bound", b, e, api.Span{Low: 4940, High: 5080}, api.OK)
	n, e := wheels.Many(w, l)
	sameInt(t, "Many", n, e, 41*101, api.OK)
	n, e = wheels.Worst(w, l, 1, 1)
	sameInt(t, "Worst", n, e, 141, api.OK)
	// An area and a skew from -20 to 20: both walks together tell the area up to half of 100 to each side.
	n, e = wheels.Worst(w, l, 1, -1)
	sameInt(t, "Worst", n, e, 101, api.OK)
	w.Wrong = api.MaxWalks
	n, e = wheels.Many(w, l)
	sameInt(t, "Many", n, e, 10000*41, api.OK)
	n, e = wheels.Worst(w, l, -1, 1)
	sameInt(t, "Worst", n, e, 141, api.OK)
	w.Full = 10
	n, e = wheels.Worst(w, nil, -1, -1)
	sameInt(t, "Worst", n, e, 10000, api.OK)
	sense, side, e := wheels.Next(w, nil)
	if sense != 1 || side != 1 || e != api.OK {
		t.Errorf("Next = %d, %d, %d", sense, side, e)
	}
	inside := widest()
	inside.Read, inside.Slip, inside.Skew = 0, 0, 0
	areas, e := wheels.Areas(inside, []api.Walk{walk(1, -1, 1, 9999, 0)}) // area - 9999 is 1, or -9999
	sameList(t, "Areas", areas, e, []int{0}, api.OK)
	areas, e = wheels.Areas(inside, []api.Walk{walk(-1, 1, 1, 9999, 9999)})
	sameList(t, "Areas", areas, e, []int{9999}, api.OK)
}
