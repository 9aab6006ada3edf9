package wheels_test

import (
	"slices"
	"testing"

	"knurl/api"
	"knurl/corners"
	"knurl/wheels"
)

// P3.11
func TestEachTruth(t *testing.T) {
	many := 0
	each(11, 1500, func(_ *numbers, w api.Wheel, l []api.Walk) {
		x := tried(w, l)
		areas, _ := wheels.Areas(w, l)
		b, _ := wheels.Bound(w, l)
		skews, _ := wheels.Skews(w, l)
		strange, _ := wheels.Strange(w, l)
		fewest, _ := wheels.Fewest(w, l)
		for _, p := range x.truths {
			wrong := 0
			for i, k := range l {
				if isRight(w, k, p.area, p.skew) {
					if slices.Contains(strange, i) {
						t.Errorf("the walk %d of %v is strange, but right for %v", i, l, p)
					}
				} else {
					wrong++
				}
			}
			if fewest > wrong || !slices.Contains(areas, p.area) || p.area < b.Low || p.area > b.High || !slices.Contains(skews, p.skew) {
				t.Errorf("Fewest = %d, Areas = %v, Bound = %v, Skews = %v of %v, %v; %v is a truth with %d", fewest, areas, b, skews, w, l, p, wrong)
			}
			many++
		}
	})
	if many < 1000 {
		t.Errorf("only %d truths", many)
	}
}

// P3.12
func TestOnceMore(t *testing.T) {
	each(12, 3000, func(n *numbers, w api.Wheel, l []api.Walk) {
		many, e := wheels.Many(w, l)
		areas, _ := wheels.Areas(w, l)
		b, _ := wheels.Bound(w, l)
		more := append(slices.Clone(l), n.right(w, n.from(w.Guess.Low, w.Guess.High), n.from(-w.Skew, w.Skew)))
		moreMany, moreE := wheels.Many(w, more)
		moreBound, _ := wheels.Bound(w, more)
		if moreMany > many || moreE == api.OK && (e != api.OK || moreBound.Low < b.Low || moreBound.High > b.High) {
			t.Errorf("Many = %d and %d, Bound = %v and %v of %v, %v", many, moreMany, b, moreBound, w, more)
		}
		for _, greater := range []api.Wheel{w, w, w, w, w} {
			switch n.from(0, 4) {
			case 0:
				greater.Read += n.from(1, 5)
			case 1:
				greater.Slip += n.from(1, 5)
			case 2:
				greater.Skew += n.from(1, 5)
			case 3:
				greater.Wrong += n.from(1, 5)
			case 4:
				greater.Guess.Low -= n.from(0, min(greater.Guess.Low, 3))
				greater.Guess.High += n.from(0, 3)
			}
			found, _ := wheels.Areas(greater, l)
			for _, area := range areas {
				if !slices.Contains(found, area) {
					t.Errorf("Areas of %v, %v = %v; of %v: %v", w, l, areas, greater, found)
				}
			}
		}
	})
}

// P3.13
func TestWhatCancels(t *testing.T) {
	n := numbers{state: 13}
	found, widest := 0, 0
	for range 5000 {
		width := n.from(0, 40)
		w := api.Wheel{Read: n.from(0, 3), Slip: n.from(0, 10), Skew: n.from(0, 20), Circle: n.from(0, api.MaxCount), Guess: api.Span{Low: n.from(0, 9000)}}
		w.Guess.High = w.Guess.Low + width
		w.Full = max(10, width+w.Slip+2*w.Skew+4*w.Read+1+max(0, n.from(-5, 20)))
		area, skew := n.from(w.Guess.Low, w.Guess.High), n.from(-w.Skew, w.Skew)
		l := []api.Walk{n.right(w, area, skew), n.right(w, area, skew)}
		if l[0].Sense*l[0].Side == l[1].Sense*l[1].Side {
			continue
		}
		b, e := wheels.Bound(w, l)
		if e != api.OK || b.High-b.Low > w.Slip+4*w.Read || area < b.Low || area > b.High {
			t.Errorf("Bound of %v, %v = %v, %d", w, l, b, e)
		}
		if b.High-b.Low == w.Slip+4*w.Read {
			widest++
		}
		found++
	}
	if found < 1000 || widest < 20 {
		t.Errorf("only %d pairs, %d just as wide", found, widest)
	}
}

// P3.14
func TestTurnedAround(t *testing.T) {
	each(14, 1500, func(n *numbers, w api.Wheel, l []api.Walk) {
		pairs := pairsOf(t, w, l)
		var turned, moved []api.Walk
		for _, k := range l {
			turned = append(turned, walk(-k.Sense, -k.Side, k.Inside, k.End, k.Start))
			by := n.from(0, w.Full-1)
			moved = append(moved, walk(k.Sense, k.Side, k.Inside, (k.Start+by)%w.Full, (k.End+by)%w.Full))
		}
		for _, other := range [][]api.Walk{turned, moved, reversed(l), halves(l)} {
			if got := pairsOf(t, w, other); !slices.Equal(got, pairs) {
				t.Errorf("the truths of %v, %v are %v; of %v: %v", w, l, pairs, other, got)
			}
			n, e := wheels.Many(w, l)
			m, f := wheels.Many(w, other)
			sameInt(t, "Many", m, f, n, e)
			n, e = wheels.Fewest(w, l)
			m, f = wheels.Fewest(w, other)
			sameInt(t, "Fewest", m, f, n, e)
		}
		odd, e := wheels.Strange(w, l)
		for _, same := range [][]api.Walk{turned, moved} {
			got, f := wheels.Strange(w, same)
			sameList(t, "Strange", got, f, odd, e)
		}
	})
}

func reversed(l []api.Walk) []api.Walk {
	l = slices.Clone(l)
	slices.Reverse(l)
	return l
}

// halves exchanges both halves of a list.
func halves(l []api.Walk) []api.Walk {
	return slices.Concat(l[len(l)/2:], l[:len(l)/2])
}

// P3.15
func TestTheNextWalk(t *testing.T) {
	each(15, 800, func(n *numbers, w api.Wheel, l []api.Walk) {
		w.Wrong = 0
		areas, e := wheels.Areas(w, l)
		if e != api.OK {
			return
		}
		sense, side, e := wheels.Next(w, l)
		best, f := wheels.Worst(w, l, sense, side)
		if e != api.OK || f != api.OK {
			t.Fatalf("Next of %v, %v: %d; Worst: %d", w, l, e, f)
		}
		for _, k := range kinds() {
			worst, e := wheels.Worst(w, l, k[0], k[1])
			if e != api.OK || worst > len(areas) || worst < best {
				t.Errorf("Worst of %v, %v, %v = %d, %d; Areas = %v, and that of Next is %d", w, l, k, worst, e, areas, best)
			}
			greatest := 0
			for difference := range w.Full {
				start := n.from(0, w.Full-1)
				left, _ := wheels.Areas(w, append(slices.Clone(l), walk(k[0], k[1], 0, start, (start+difference)%w.Full)))
				greatest = max(greatest, len(left))
			}
			if greatest != worst {
				t.Errorf("Worst of %v, %v, %v = %d; there are %d areas", w, l, k, worst, greatest)
			}
		}
	})
}

// P3.9: one more walk than there can be is asked for as any other one, and Wrong counts for the walks that there are.
func TestWorst(t *testing.T) {
	l := slices.Repeat([]api.Walk{walkA()}, api.MaxWalks)
	n, e := wheels.Worst(wheelW(), l, 1, 1)
	sameInt(t, "Worst", n, e, 5, api.OK)
	n, e = wheels.Worst(wheelW(), l, -1, 1)
	sameInt(t, "Worst", n, e, 1, api.OK)
	w := wheelW()
	w.Wrong = 1
	n, e = wheels.Worst(w, []api.Walk{walkA()}, -1, 1)
	sameInt(t, "Worst", n, e, 5, api.OK)
	n, e = wheels.Worst(w, []api.Walk{walkA(), walkA()}, -1, 1)
	sameInt(t, "Worst", n, e, 1, api.OK)
	// The area 0 counts as any other one.
	n, e = wheels.Worst(api.Wheel{Full: 10}, nil, 1, 1)
	sameInt(t, "Worst", n, e, 1, api.OK)
	n, e = wheels.Worst(api.Wheel{Full: 10, Guess: api.Span{High: 10}}, nil, -1, -1)
	sameInt(t, "Worst", n, e, 2, api.OK)
	for _, bad := range []int{0, 2, -2, 100} {
		n, e = wheels.Worst(wheelW(), l, bad, 1)
		sameInt(t, "Worst", n, e, 0, api.ErrArg)
		n, e = wheels.Worst(wheelW(), l, -1, bad)
		sameInt(t, "Worst", n, e, 0, api.ErrArg)
	}
}

// P3.10: what is known tells which pole is better; of equal kinds the first one is returned.
func TestNext(t *testing.T) {
	for _, x := range []struct {
		l           []api.Walk
		sense, side int
	}{
		{nil, 1, 1},
		{[]api.Walk{walkA()}, 1, -1},
		{[]api.Walk{walkB()}, 1, 1},
		{[]api.Walk{walkA(), walkB()}, 1, 1},
		{[]api.Walk{walk(-1, 1, 0, 62, 10)}, 1, 1},
		{[]api.Walk{walk(-1, -1, 0, 62, 10)}, 1, -1},
	} {
		sense, side, e := wheels.Next(wheelW(), x.l)
		if sense != x.sense || side != x.side || e != api.OK {
			t.Errorf("Next of %v = %d, %d, %d", x.l, sense, side, e)
		}
	}
}

// P3.16
func TestOneWalk(t *testing.T) {
	each(16, 2000, func(_ *numbers, w api.Wheel, l []api.Walk) {
		w.Wrong = 0
		for i, k := range l {
			told, e := wheels.Tells(w, l, i)
			alone, f := wheels.Areas(w, []api.Walk{k})
			sameList(t, "Tells", told, e, alone, f)
			areas, _ := wheels.Areas(w, l)
			for _, area := range areas {
				if !slices.Contains(told, area) {
					t.Errorf("Areas of %v, %v = %v; the walk %d tells %v", w, l, areas, i, told)
				}
			}
		}
	})
}

// P0.2
func TestBothSides(t *testing.T) {
	n := numbers{state: 82}
	found := 0
	for range 20000 {
		most := [...]int{3, 8, 30, 70}[n.from(0, 3)]
		var p []api.Point
		for range n.from(3, 5) {
			p = append(p, api.Point{X: n.from(-most, most), Y: n.from(-most, most)})
		}
		twice, e := corners.Twice(p)
		if e != api.OK || twice < 0 || twice > api.MaxCount {
			continue
		}
		w := api.Wheel{Full: n.from(60, [...]int{60, 100, api.MaxFull}[n.from(0, 2)]), Skew: n.from(0, api.MaxSkew), Circle: n.from(0, api.MaxCount)}
		w.Guess = api.Span{Low: max(0, twice-n.from(0, 10)), High: min(api.MaxCount, twice+n.from(0, 10))}
		skew := n.from(-w.Skew, w.Skew)
		var l []api.Walk
		for _, side := range []int{1, -1} {
			start := n.from(0, w.Full-1)
			end := ((start+twice+side*skew)%w.Full + w.Full) % w.Full
			l = append(l, walk(1, side, 0, start, end))
		}
		areas, e := wheels.Areas(w, l)
		sameList(t, "Areas", areas, e, []int{twice}, api.OK)
		skews, e := wheels.Skews(w, l)
		sameList(t, "Skews", skews, e, []int{skew}, api.OK)
		found++
	}
	if found < 2000 {
		t.Errorf("only %d polygons", found)
	}
}
