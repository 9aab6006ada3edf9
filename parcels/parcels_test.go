package parcels_test

import (
	"fmt"
	"math"
	"slices"
	"testing"

	"knurl/api"
	"knurl/parcels"
)

// P6.1
func TestCheck(t *testing.T) {
	for name, p := range badPlats() {
		if e := parcels.Check(p); e != api.ErrPlat {
			t.Errorf("Check of %s: %d", name, e)
		}
	}
	four := []int{0, 9999, 1, 2}
	for i, p := range []api.Plat{
		platP(), platQ(), greatestPlat(), {}, {Rows: four, Cols: four}, {Rows: four}, {Cols: four},
		plat(nil, nil, -1, -1, 0, 0), plat(four, nil, 3, -1, 999, 99), plat(nil, four, -1, 3, 999, 99), plat(four, four, -1, -1, 999, 0, 0, 0, 0, 99),
		{Parcels: slices.Repeat([]api.Parcel{parcel(-1, -1, 5, 5)}, 8)},
	} {
		if e := parcels.Check(p); e != api.OK {
			t.Errorf("%d: Check: %d", i, e)
		}
	}
}

// The chapter's examples.
func TestExamples(t *testing.T) {
	for _, x := range []struct {
		areas []int
		want  bool
	}{{[]int{11, 20, 16, 30}, true}, {[]int{10, 20, 15, 30}, false}} {
		if ok, e := parcels.Fills(platP(), x.areas); ok != x.want || e != api.OK {
			t.Errorf("Fills of P, %v = %v, %d", x.areas, ok, e)
		}
	}
	n, e := parcels.Least(platP())
	sameInt(t, "Least of P", n, e, 2, api.OK)
	n, e = parcels.Worst(platP())
	sameInt(t, "Worst of P", n, e, 1, api.OK)
	n, e = parcels.Few(platP())
	sameInt(t, "Few of P", n, e, 2, api.OK)
	l, e := parcels.Adjust(platP())
	sameList(t, "Adjust of P", l, e, []int{11, 20, 16, 30}, api.OK) // no other adjustment has this sum of changes
	for i, want := range []api.Span{span(11, 12), span(19, 20), span(15, 16), span(30, 31)} {
		s, e := parcels.Range(platP(), i)
		sameSpan(t, fmt.Sprint("Range of P, ", i), s, e, want, api.OK)
	}
	l, e = parcels.Fixed(platP())
	sameList(t, "Fixed of P", l, e, nil, api.OK)
	n, e = parcels.Least(platQ())
	sameInt(t, "Least of Q", n, e, 0, api.ErrNone)
	rows, cols, e := parcels.Chain(platQ())
	if e != api.OK || !proves(platQ(), rows, cols) {
		t.Errorf("Chain of Q = %v, %v, %d", rows, cols, e)
	}
	if !proves(platQ(), nil, []int{0}) {
		t.Error("the column 0 of Q does not prove")
	}
	rows, cols, e = parcels.Chain(platP())
	if len(rows)+len(cols) > 0 || e != api.ErrNone {
		t.Errorf("Chain of P = %v, %v, %d", rows, cols, e)
	}
}

// P6.2: each list of areas, also of such as are not allowed.
func TestFills(t *testing.T) {
	found := map[bool]int{}
	small(2, 600, func(n *numbers, p api.Plat) {
		all := adjustments(p)
		for i := range 40 {
			areas := measured(p)
			if i < len(all) {
				areas = slices.Clone(all[i])
			}
			for j := range areas {
				if n.from(0, 7) == 0 {
					areas[j] += n.from(-3, 3)
				}
			}
			got, e := parcels.Fills(p, areas)
			if want := fills(p, areas); got != want || e != api.OK {
				t.Errorf("Fills of %v, %v = %v, %d; want %v", p, areas, got, e, want)
			}
			found[got]++
		}
		if len(all) > 0 {
			areas := all[n.from(0, len(all)-1)]
			for _, l := range [][]int{append(slices.Clone(areas), 0), areas[:max(0, len(areas)-1)]} {
				if ok, e := parcels.Fills(p, l); len(l) != len(areas) && (ok || e != api.ErrArg) {
					t.Errorf("Fills of %v, %v = %v, %d", p, l, ok, e)
				}
			}
		}
	})
	if found[true] < 1000 || found[false] < 1000 {
		t.Errorf("fills: %v", found)
	}
}

// P6.2: one unit beyond what is allowed, and sums that an int does not hold.
func TestFillsAtEnds(t *testing.T) {
	row := plat([]int{10}, nil, 0, -1, 3, 5, 0, -1, 4, 4)
	strip := plat([]int{0, 5}, []int{5, 0}, 1, 0, 5, 0, -1, -1, 7, 2)
	for _, x := range []struct {
		p     api.Plat
		areas []int
		want  bool
	}{
		{row, []int{8, 2}, true}, {row, []int{2, 8}, true}, {row, []int{9, 1}, false}, {row, []int{1, 9}, false}, {row, []int{11, -1}, false}, {row, []int{8, 1}, false}, {row, []int{8, 3}, false},
		{row, []int{math.MinInt, math.MinInt + 10}, false}, {row, []int{math.MaxInt, math.MinInt + 11}, false},
		{strip, []int{5, 5}, true}, {strip, []int{5, 9}, true}, {strip, []int{5, 4}, false}, {strip, []int{5, 10}, false}, {strip, []int{4, 7}, false},
		{api.Plat{}, nil, true}, {api.Plat{}, []int{}, true}, {plat([]int{0}, []int{0, 0}), nil, true}, {plat([]int{0, 1}, nil), nil, false}, {plat(nil, []int{1}), nil, false},
		{greatestPlat(), slices.Repeat([]int{1098}, 8), true}, {greatestPlat(), slices.Repeat([]int{1097}, 8), false}, {greatestPlat(), []int{1099, 1097, 1097, 1099, 1097, 1099, 1099, 1097}, false},
	} {
		if ok, e := parcels.Fills(x.p, x.areas); ok != x.want || e != api.OK {
			t.Errorf("Fills of %v, %v = %v, %d", x.p, x.areas, ok, e)
		}
	}
	for _, areas := range [][]int{nil, {}, {8}, {8, 2, 0}} {
		if ok, e := parcels.Fills(row, areas); ok || e != api.ErrArg {
			t.Errorf("Fills of %v, %v = %v, %d", row, areas, ok, e)
		}
	}
	if ok, e := parcels.Fills(api.Plat{}, []int{0}); ok || e != api.ErrArg {
		t.Errorf("Fills of no parcels, 0 = %v, %d", ok, e)
	}
}

// sameAnswers compares what all functions but Check and Fills say with what is known.
func sameAnswers(t *testing.T, p api.Plat, k known) {
	t.Helper()
	call := fmt.Sprint(" of ", p)
	n, e := parcels.Least(p)
	sameInt(t, "Least"+call, n, e, k.least, k.error())
	n, e = parcels.Worst(p)
	sameInt(t, "Worst"+call, n, e, k.worst, k.error())
	n, e = parcels.Few(p)
	sameInt(t, "Few"+call, n, e, k.few, k.error())
	l, e := parcels.Fixed(p)
	sameList(t, "Fixed"+call, l, e, k.fixed(), k.error())
	for i := range p.Parcels {
		s, e := parcels.Range(p, i)
		want := api.Span{}
		if k.many > 0 {
			want = k.ranges[i]
		}
		sameSpan(t, fmt.Sprint("Range", call, ", ", i), s, e, want, k.error())
	}
	near, e := parcels.Adjust(p)
	even, f := parcels.Even(p)
	rows, cols, g := parcels.Chain(p)
	if k.many == 0 {
		sameList(t, "Adjust"+call, near, e, nil, api.ErrNone)
		sameList(t, "Even"+call, even, f, nil, api.ErrNone)
		if g != api.OK || !proves(p, rows, cols) {
			t.Errorf("Chain%s = %v, %v, %d", call, rows, cols, g)
		}
		return
	}
	if e != api.OK || len(near) != len(p.Parcels) || !fills(p, near) || total(p, near) != k.least {
		t.Errorf("Adjust%s = %v, %d; Least is %d", call, near, e, k.least)
	}
	if f != api.OK || len(even) != len(p.Parcels) || !fills(p, even) || most(p, even) > k.worst {
		t.Errorf("Even%s = %v, %d; Worst is %d", call, even, f, k.worst)
	}
	if len(rows)+len(cols) > 0 || g != api.ErrNone {
		t.Errorf("Chain%s = %v, %v, %d", call, rows, cols, g)
	}
}

// tally counts what plats are like, so that a test can say that it had some of each kind.
type tally struct {
	none, some, fixed  int
	least, worst, fews map[int]int
}

func newTally() tally {
	return tally{least: map[int]int{}, worst: map[int]int{}, fews: map[int]int{}}
}

func (x *tally) add(k known) {
	if k.many == 0 {
		x.none++
		return
	}
	x.some++
	x.fixed += len(k.fixed())
	x.least[k.least]++
	x.worst[k.worst]++
	x.fews[k.few]++
}

// P6.3 to P6.10: as all lists of areas say, on small plats.
func TestTried(t *testing.T) {
	x := newTally()
	small(3, 3000, func(_ *numbers, p api.Plat) {
		k := tried(p)
		sameAnswers(t, p, k)
		x.add(k)
	})
	if x.none < 300 || x.some < 1000 || x.fixed < 300 || x.least[0] < 100 || x.least[4] < 20 || x.worst[2] < 100 || x.fews[3] < 20 {
		t.Errorf("%+v", x)
	}
}

// P6.3 to P6.10: as carrying says, on plats of all sizes.
func TestCarried(t *testing.T) {
	x := newTally()
	large(4, 1000, func(_ *numbers, p api.Plat) {
		k := flowed(p)
		sameAnswers(t, p, k)
		x.add(k)
	})
	if x.none < 100 || x.some < 500 || x.fixed < 500 || len(x.least) < 100 || len(x.worst) < 50 || x.fews[5] < 20 {
		t.Errorf("%+v", x)
	}
}

// P6.4 to P6.10: where everything is as great as it can be, and where there is nothing.
func TestEnds(t *testing.T) {
	all, none := slices.Repeat([]int{1098}, 8), []int(nil)
	fixed := []int{0, 1, 2, 3, 4, 5, 6, 7}
	stuck := plat([]int{0}, nil, 0, -1, 99, 99, 0, -1, 50, 99)
	for i, x := range []struct {
		p                 api.Plat
		least, worst, few int
		areas, fixed      []int
	}{
		{greatestPlat(), 792, 99, 8, all, fixed}, {api.Plat{}, 0, 0, 0, none, none}, {plat([]int{0, 0}, []int{0}), 0, 0, 0, none, none},
		{plat(nil, nil, -1, -1, 0, 99, -1, -1, 999, 99), 0, 0, 0, []int{0, 999}, none}, {plat(nil, nil, -1, -1, 5, 0), 0, 0, 0, []int{5}, []int{0}},
		{stuck, 149, 99, 2, []int{0, 0}, []int{0, 1}}, {plat([]int{198}, nil, 0, -1, 99, 99), 99, 99, 1, []int{198}, []int{0}}, {plat(nil, []int{7}, -1, 0, 7, 0), 0, 0, 0, []int{7}, []int{0}},
	} {
		n, e := parcels.Least(x.p)
		sameInt(t, fmt.Sprint(i, ": Least"), n, e, x.least, api.OK)
		n, e = parcels.Worst(x.p)
		sameInt(t, fmt.Sprint(i, ": Worst"), n, e, x.worst, api.OK)
		n, e = parcels.Few(x.p)
		sameInt(t, fmt.Sprint(i, ": Few"), n, e, x.few, api.OK)
		l, e := parcels.Adjust(x.p)
		sameList(t, fmt.Sprint(i, ": Adjust"), l, e, x.areas, api.OK)
		l, e = parcels.Even(x.p)
		if e != api.OK || !fills(x.p, l) || most(x.p, l) > x.worst {
			t.Errorf("%d: Even = %v, %d", i, l, e)
		}
		l, e = parcels.Fixed(x.p)
		sameList(t, fmt.Sprint(i, ": Fixed"), l, e, x.fixed, api.OK)
	}
	for i, x := range []struct {
		p    api.Plat
		want api.Span
	}{
		{plat(nil, nil, -1, -1, 5, 9), span(0, 14)}, {plat(nil, nil, -1, -1, 999, 99), span(900, 1098)}, {plat(nil, nil, -1, -1, 9, 9), span(0, 18)}, {plat([]int{30}, nil, 0, -1, 20, 15, 0, -1, 5, 3), span(22, 28)}, {plat(nil, []int{30}, -1, 0, 20, 15, -1, 0, 5, 9), span(16, 30)},
		{plat([]int{30}, []int{30}, 0, 0, 20, 10, 0, -1, 5, 5, -1, 0, 4, 4), span(22, 30)}, {plat([]int{1098}, nil, 0, -1, 999, 99), span(1098, 1098)},
	} {
		s, e := parcels.Range(x.p, 0)
		sameSpan(t, fmt.Sprint(i, ": Range"), s, e, x.want, api.OK)
	}
	for _, i := range []int{math.MinInt, -1, 4, math.MaxInt} {
		s, e := parcels.Range(platP(), i)
		sameSpan(t, fmt.Sprint("Range of P, ", i), s, e, api.Span{}, api.ErrArg)
	}
}

// P6.4 to P6.7: where the changes with the least sum are not those with the least greatest one, nor the fewest.
func TestDifferentAims(t *testing.T) {
	// The row wants 6 more. What its first parcel gets, the next three have to give and get in turn; the last two are in no other strip.
	p := plat([]int{46, 20}, []int{20, 20}, 0, 0, 10, 9, 0, 1, 10, 9, 1, 0, 10, 9, 1, 1, 10, 9, 0, -1, 10, 3, 0, -1, 10, 3)
	n, e := parcels.Least(p)
	sameInt(t, "Least", n, e, 6, api.OK)
	n, e = parcels.Worst(p)
	sameInt(t, "Worst", n, e, 3, api.OK)
	n, e = parcels.Few(p)
	sameInt(t, "Few", n, e, 2, api.OK)
	p.Parcels[4].Off, p.Parcels[5].Off = 6, 0
	n, e = parcels.Worst(p)
	sameInt(t, "Worst of one that changes alone", n, e, 6, api.OK)
	n, e = parcels.Few(p)
	sameInt(t, "Few of one that changes alone", n, e, 1, api.OK)

	// One parcel can do alone what three others share.
	q := plat([]int{49}, nil, 0, -1, 10, 9, 0, -1, 10, 3, 0, -1, 10, 3, 0, -1, 10, 3)
	n, e = parcels.Least(q)
	sameInt(t, "Least of four", n, e, 9, api.OK)
	n, e = parcels.Worst(q)
	sameInt(t, "Worst of four", n, e, 3, api.OK)
	n, e = parcels.Few(q)
	sameInt(t, "Few of four", n, e, 1, api.OK)
}

// P6.4 to P6.8: what is settled first is best changed after all, as far as can be, in two rings of four parcels. What the first parcel of a ring does not get, the two beside it have to get, and the last one has to give.
func TestFarSteps(t *testing.T) {
	for far := 1; far <= api.MaxOff; far++ {
		strips := []int{200 + far, 200, 200 + far, 200}
		p := plat(strips, strips,
			0, 0, 100, far, 0, 1, 100, far, 1, 0, 100, far, 1, 1, 100, far,
			2, 2, 100, far, 2, 3, 100, far, 3, 2, 100, far, 3, 3, 100, far)
		n, e := parcels.Least(p)
		sameInt(t, fmt.Sprint("Least with ", far), n, e, 2*far, api.OK)
		l, e := parcels.Adjust(p)
		sameList(t, fmt.Sprint("Adjust with ", far), l, e, []int{100 + far, 100, 100, 100, 100 + far, 100, 100, 100}, api.OK)
		n, e = parcels.Worst(p)
		sameInt(t, fmt.Sprint("Worst with ", far), n, e, (far+1)/2, api.OK)
		l, e = parcels.Even(p)
		if e != api.OK || !fills(p, l) || most(p, l) != (far+1)/2 {
			t.Errorf("Even with %d = %v, %d", far, l, e)
		}
		n, e = parcels.Few(p)
		sameInt(t, fmt.Sprint("Few with ", far), n, e, 2, api.OK)
	}
}
