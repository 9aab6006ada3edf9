package discord_test

import (
	"fmt"
	"math"
	"math/bits"
	"slices"
	"testing"

	"knurl/api"
	"knurl/corners"
	"knurl/discord"
)

// P8.1
func TestCheck(t *testing.T) {
	for name, d := range badDisputes() {
		if e := discord.Check(d); e != api.ErrDispute {
			t.Errorf("Check of %s: %d", name, e)
		}
	}
	for name, change := range map[string]func(d *api.Dispute){
		"as it is":         func(d *api.Dispute) {},
		"three corners":    func(d *api.Dispute) { d.Corners, d.Offs = d.Corners[:3], d.Offs[:3] },
		"six corners":      func(d *api.Dispute) { d.Corners, d.Offs = points(0, 0, 4, 0, 4, 1, 4, 2, 4, 4, 0, 4), make([]int, 6) },
		"to the right":     func(d *api.Dispute) { slices.Reverse(d.Corners) },
		"farthest corners": func(d *api.Dispute) { d.Corners = points(-200, -200, 200, -200, 200, 200, -200, 200) },
		"all Offs 2":       func(d *api.Dispute) { d.Offs = []int{2, 2, 2, 2} },
		"no Off":           func(d *api.Dispute) { d.Offs = []int{0, 0, 0, 0} },
		"Unit 1000":        func(d *api.Dispute) { d.Unit = 1000 },
		"no walks":         func(d *api.Dispute) { d.Walks = nil },
		"eight walks":      func(d *api.Dispute) { d.Walks = slices.Repeat(d.Walks, 4) },
		"Wrong 8":          func(d *api.Dispute) { d.Wheel.Wrong = 8 },
		"no story":         func(d *api.Dispute) { *d = disputeN() },
		"a greatest wheel": func(d *api.Dispute) {
			d.Wheel = api.Wheel{Full: 10000, Read: 20, Slip: 20, Skew: 20, Circle: 9999, Guess: span(0, 9999), Wrong: 8}
		},
	} {
		d := disputeD()
		change(&d)
		if e := discord.Check(d); e != api.OK {
			t.Errorf("Check of %s: %d", name, e)
		}
	}
}

// The chapter's examples.
func TestExamples(t *testing.T) {
	d := disputeD()
	n, e := discord.Fewest(d)
	same(t, "Fewest of D", n, e, 1, api.OK)
	n, e = discord.Corners(d)
	same(t, "Corners of D", n, e, 1, api.OK)
	n, e = discord.Walks(d)
	same(t, "Walks of D", n, e, 2, api.OK)
	cornerList, walks, e := discord.Blamed(d)
	sameList(t, "Blamed of D", cornerList, e, []int{1, 2, 3}, api.OK)
	sameList(t, "Blamed of D, walks", walks, e, nil, api.OK)
	cornerList, walks, e = discord.Sure(d)
	sameList(t, "Sure of D", cornerList, e, nil, api.OK)
	sameList(t, "Sure of D, walks", walks, e, nil, api.OK)
	for faults, want := range [][]int{nil, {36}, {32, 36}, {24, 28, 32, 36, 40}} {
		wantE := api.OK
		if faults == 0 {
			wantE = api.ErrNone
		}
		l, e := discord.Areas(d, faults)
		sameList(t, fmt.Sprint("Areas of D, ", faults), l, e, want, wantE)
	}
	p, e := discord.Mend(d)
	wrong, ok := wrongCorners(d, p)
	if e != api.OK || !ok || bits.OnesCount(wrong) != 1 || areaOf(t, d, p) != 36 {
		t.Errorf("Mend of D = %v, %d", p, e)
	}
}

// sameFewest compares what the functions say of stories with the fewest faults with what is known.
func sameFewest(t *testing.T, d api.Dispute, k known) {
	t.Helper()
	n, e := discord.Fewest(d)
	want, wantE := orNone(k.fewest(whatever))
	same(t, "Fewest", n, e, want, wantE)
	some, each := k.blamed()
	cornerList, walks, e := discord.Blamed(d)
	sameList(t, "Blamed", cornerList, e, listed(some.corners), wantE)
	sameList(t, "Blamed, walks", walks, e, listed(some.walks), wantE)
	cornerList, walks, e = discord.Sure(d)
	sameList(t, "Sure", cornerList, e, listed(each.corners), wantE)
	sameList(t, "Sure, walks", walks, e, listed(each.walks), wantE)
	n, e = discord.Walks(d)
	want, wantE = orNone(k.fewest(withoutCorners))
	same(t, "Walks", n, e, want, wantE)
}

// sameCorners compares what the functions say of stories without a wrong walk with what is known.
func sameCorners(t *testing.T, d api.Dispute, k known) {
	t.Helper()
	n, e := discord.Corners(d)
	want, wantE := orNone(k.fewest(withoutWalks))
	same(t, "Corners", n, e, want, wantE)
	p, e := discord.Mend(d)
	if e != wantE || e != api.OK && p != nil {
		t.Errorf("Mend = %v, %d; want the error %d", p, e, wantE)
	}
	if e != api.OK {
		return
	}
	wrong, ok := wrongCorners(d, p)
	if !ok || corners.Check(p) != api.OK || bits.OnesCount(wrong) != want || !k[tale{corners: wrong, area: areaOf(t, d, p)}] {
		t.Errorf("Mend = %v, with %d wrong corners", p, want)
	}
}

func sameAreas(t *testing.T, d api.Dispute, k known, faults int) {
	t.Helper()
	want := k.areas(faults)
	wantE := api.OK
	if len(want) == 0 {
		wantE = api.ErrNone
	}
	l, e := discord.Areas(d, faults)
	sameList(t, fmt.Sprint("Areas, ", faults), l, e, want, wantE)
}

// P8.2 to P8.8: as all fields and skews say, tried one by one.
func TestTried(t *testing.T) {
	fewest, cornersOf, walksOf := map[int]int{}, map[int]int{}, map[int]int{}
	blamed, sure, both := 0, 0, 0
	small(1, 2000, func(n *numbers, d api.Dispute) {
		k := tried(d, math.MaxInt)
		sameFewest(t, d, k)
		sameCorners(t, d, k)
		for faults := range mostFaults + 1 {
			sameAreas(t, d, k, faults)
		}
		if t.Failed() {
			t.Fatalf("of %+v", d)
		}
		fewest[k.fewest(whatever)]++
		cornersOf[k.fewest(withoutWalks)]++
		walksOf[k.fewest(withoutCorners)]++
		some, each := k.blamed()
		blamed += min(1, len(listed(some.corners)))
		sure += min(1, len(listed(each.walks)))
		if some.corners != 0 && some.walks != 0 {
			both++
		}
	})
	if fewest[-1] < 20 || fewest[0] < 100 || fewest[1] < 100 || fewest[2] < 50 || fewest[3] < 10 || cornersOf[-1] < 100 || cornersOf[1] < 50 || cornersOf[2] < 20 || walksOf[-1] < 50 || walksOf[1] < 50 || walksOf[2] < 30 || blamed < 100 || sure < 50 || both < 50 {
		t.Errorf("Fewest %v, Corners %v, Walks %v, %d blamed corners, %d sure walks, %d with both", fewest, cornersOf, walksOf, blamed, sure, both)
	}
}

// P8.2 to P8.8: on disputes of all sizes, as fields with few wrong corners say: stories with the fewest faults are among them.
func TestLarge(t *testing.T) {
	const most = 2
	fewest, cornersOf := map[int]int{}, map[int]int{}
	large(2, 500, func(n *numbers, d api.Dispute) {
		k := tried(d, most)
		for faults := range most + 1 {
			sameAreas(t, d, k, faults)
		}
		least := k.fewest(whatever)
		if least >= 0 && least <= most {
			sameFewest(t, d, k)
			fewest[least]++
		}
		if least := k.fewest(withoutWalks); least >= 0 {
			sameCorners(t, d, k)
			cornersOf[least]++
		}
		if t.Failed() {
			t.Fatalf("of %+v", d)
		}
	})
	if fewest[0] < 10 || fewest[1] < 10 || fewest[2] < 5 || cornersOf[1] < 5 || cornersOf[2] < 5 {
		t.Errorf("Fewest %v, Corners %v", fewest, cornersOf)
	}
}

// summed returns for each area the least number of wrong corners of a field with it, as long as each field is a valid polygon that goes around to the left: then areas are sums, side by side.
func summed(d api.Dispute) map[int]int {
	places := make([][]api.Point, len(d.Corners))
	for i, c := range d.Corners {
		for x := c.X - d.Offs[i]; x <= c.X+d.Offs[i]; x++ {
			for y := c.Y - d.Offs[i]; y <= c.Y+d.Offs[i]; y++ {
				places[i] = append(places[i], api.Point{X: x, Y: y})
			}
		}
	}
	cross := func(a, b api.Point) int { return a.X*b.Y - a.Y*b.X }
	least := map[int]int{}
	for _, first := range places[0] {
		sums := map[api.Point]map[int]int{first: {0: 0}}
		for i := 1; i <= len(places); i++ {
			next := map[api.Point]map[int]int{}
			to := []api.Point{first}
			if i < len(places) {
				to = places[i]
			}
			for _, b := range to {
				next[b] = map[int]int{}
				for a, before := range sums {
					wrong := 0
					if b != d.Corners[i%len(places)] {
						wrong = 1
					}
					for sum, n := range before {
						sum += cross(a, b)
						if old, found := next[b][sum]; !found || n+wrong < old {
							next[b][sum] = n + wrong
						}
					}
				}
			}
			sums = next
		}
		for sum, n := range sums[first] {
			if old, found := least[sum/d.Unit]; !found || n < old {
				least[sum/d.Unit] = n
			}
		}
	}
	return least
}

// reckoned returns a story for each area, with as few wrong corners as it needs, if there is no skew. (Which corners these are is not told: it says the first ones.)
func reckoned(d api.Dispute) known {
	k := known{}
	for area, wrong := range summed(d) {
		k[tale{corners: 1<<wrong - 1, walks: wrongWalks(d, area, 0), area: area}] = true
	}
	return k
}

// P8.2, P8.3, P8.6: where each corner can be wrong.
func TestAllWrong(t *testing.T) {
	d := api.Dispute{
		Corners: points(-3, -7, 4, -7, 7, 0, 4, 7, -3, 7, -7, 0), Offs: []int{2, 2, 1, 1, 1, 1}, Unit: 3,
		Wheel: api.Wheel{Full: 1000, Read: 1, Slip: 2, Guess: span(0, 500)},
		Walks: []api.Walk{walk(1, 1, 0, 0, 100), walk(1, 1, 0, 0, 101), walk(-1, 1, 0, 0, 866)},
	}
	n := numbers{state: 77}
	for range 3000 {
		p := slices.Clone(d.Corners)
		for i, off := range d.Offs {
			p[i].X += n.from(-off, off)
			p[i].Y += n.from(-off, off)
		}
		if twice, e := corners.Twice(p); e != api.OK || twice <= 0 {
			t.Fatalf("%v is not a field to the left", p)
		}
	}
	k := reckoned(d)
	for _, faults := range []int{0, 1, 2, 3, 4, 5, 6, 7, 9, mostFaults} {
		sameAreas(t, d, k, faults)
	}
	all := k.areas(mostFaults)
	most := all[len(all)-1]
	// The walk is right for areas from 2 less than what it shows to 4 more.
	for shown, can := range map[int]bool{most + 3: false, most + 2: true, most - 8: true, all[0] - 5: false, all[0] - 4: true, all[0]: true} {
		d.Walks = []api.Walk{walk(1, 1, 0, 0, shown)}
		k := reckoned(d)
		least, e := discord.Fewest(d)
		same(t, "Fewest", least, e, k.fewest(whatever), api.OK)
		want, wantE := orNone(k.fewest(withoutWalks))
		if (wantE == api.OK) != can {
			t.Errorf("%d is shown: the error is %d", shown, wantE)
		}
		least, e = discord.Corners(d)
		same(t, fmt.Sprint("Corners where ", shown, " is shown"), least, e, want, wantE)
	}
}

// P8.2, P8.4 to P8.7: where a corner and a walk together are less than either side alone.
func TestBothSides(t *testing.T) {
	d := disputeD()
	d.Wheel.Slip, d.Wheel.Guess = 3, span(20, 60)
	d.Walks = []api.Walk{walk(1, 1, 0, 0, 40), walk(1, -1, 0, 0, 40), walk(1, 1, 0, 60, 0), walk(1, 1, 0, 0, 43)} // three are right for 40 to 43, one for 43 to 46
	for _, x := range []struct {
		call string
		f    func(api.Dispute) (int, api.Errno)
		want int
	}{{"Fewest", discord.Fewest, 2}, {"Corners", discord.Corners, 3}, {"Walks", discord.Walks, 4}} {
		n, e := x.f(d)
		same(t, x.call, n, e, x.want, api.OK)
	}
	cornerList, walks, e := discord.Blamed(d)
	sameList(t, "Blamed", cornerList, e, []int{1, 2, 3}, api.OK)
	sameList(t, "Blamed, walks", walks, e, []int{3}, api.OK)
	cornerList, walks, e = discord.Sure(d)
	sameList(t, "Sure", cornerList, e, nil, api.OK)
	sameList(t, "Sure, walks", walks, e, []int{3}, api.OK)
	k := tried(d, math.MaxInt)
	sameFewest(t, d, k)
	sameCorners(t, d, k)
}

// P8.3, P8.6: fields keep to what is allowed for polygons.
func TestEdge(t *testing.T) {
	for _, c := range []struct{ at, to int }{{-api.MaxCoord, 1}, {api.MaxCoord, -1}} {
		// The corner 2 can be off to one side alone.
		p := points(c.at, 0, c.at+3*c.to, 0, c.at, 2)
		d := api.Dispute{Corners: p, Offs: []int{0, 0, 1}, Unit: 1, Wheel: api.Wheel{Full: 100, Guess: span(0, 99)}}
		l, e := discord.Areas(d, mostFaults)
		sameList(t, "Areas", l, e, []int{3, 6, 9}, api.OK)
		for i := range p {
			p[i] = api.Point{X: p[i].Y, Y: p[i].X}
		}
		l, e = discord.Areas(d, mostFaults)
		sameList(t, "Areas of the exchanged", l, e, []int{3, 6, 9}, api.OK)
		// Only beyond the edge the area would be greater than 8.
		p = points(c.at, 0, c.at+2*c.to, 0, c.at, 2)
		d = api.Dispute{Corners: p, Offs: []int{2, 0, 0}, Unit: 1, Wheel: api.Wheel{Full: 100, Guess: span(8, 99)}}
		l, e = discord.Areas(d, mostFaults)
		sameList(t, "Areas up to the edge", l, e, []int{8}, api.OK)
		d.Wheel.Guess.Low = 9
		l, e = discord.Areas(d, mostFaults)
		sameList(t, "Areas beyond the edge", l, e, nil, api.ErrNone)
	}
}

// P8.2, P8.3: a square with corners that are off as far as they can be.
func TestSquare(t *testing.T) {
	for side := 5; side <= 45; side += 20 {
		for off := range api.MaxShift + 1 {
			p := points(0, 0, side, 0, side, side, 0, side)
			most := 2 * (side + 2*off) * (side + 2*off)
			for range 2 {
				d := api.Dispute{Corners: p, Offs: []int{off, off, off, off}, Unit: 1, Wheel: api.Wheel{Full: 100, Guess: span(most, api.MaxCount)}}
				l, e := discord.Areas(d, mostFaults)
				sameList(t, fmt.Sprint("Areas of ", p, " off by ", off), l, e, []int{most}, api.OK)
				n, e := discord.Fewest(d)
				same(t, fmt.Sprint("Fewest of ", p, " off by ", off), n, e, 4*min(1, off), api.OK)
				p = slices.Clone(p)
				slices.Reverse(p)
			}
		}
	}
}

// P1, P8.2 to P8.8: with the greatest numbers.
func TestGreatest(t *testing.T) {
	d := api.Dispute{
		Corners: points(-198, -198, 0, -198, 198, -198, 198, 198, 0, 198, -198, 198), Offs: []int{2, 2, 2, 2, 2, 2}, Unit: 33,
		Wheel: api.Wheel{Full: api.MaxFull, Read: api.MaxRead, Slip: api.MaxSlip, Skew: api.MaxSkew, Circle: api.MaxCount, Guess: span(0, api.MaxCount), Wrong: api.MaxWalks},
		Walks: slices.Repeat([]api.Walk{walk(1, 1, 0, 0, 9696), walk(-1, -1, 1, 5000, 5000-(9696-9999))}, 4),
	}
	for range 2 {
		l, e := discord.Areas(d, mostFaults)
		if e != api.OK || l[0] != 2*392*392/33 || l[len(l)-1] != 2*400*400/33 {
			t.Errorf("Areas = %v, %d", l, e)
		}
		slices.Reverse(d.Corners)
	}
	// The walks are right for areas from 60 less than 9696. By the corners the doubled area is 4356 less than 33 times this; no corner makes it greater by more than 1188 alone.
	n, e := discord.Corners(d)
	same(t, "Corners", n, e, 4, api.OK)
	n, e = discord.Walks(d)
	same(t, "Walks", n, e, 8, api.OK)
	n, e = discord.Fewest(d)
	same(t, "Fewest", n, e, 4, api.OK)
	p, e := discord.Mend(d)
	if wrong, ok := wrongCorners(d, p); e != api.OK || !ok || bits.OnesCount(wrong) != 4 || areaOf(t, d, p) < 9696-60 {
		t.Errorf("Mend = %v, %d", p, e)
	}
}

// P8.3: an area is rounded down, without its sign, and must be one of Guess.
func TestRoundedDown(t *testing.T) {
	for _, p := range [][]api.Point{points(0, 0, 5, 0, 5, 4, 0, 4), points(0, 4, 5, 4, 5, 0, 0, 0), points(5, 0, 0, 0, 0, 4, 5, 4)} {
		for unit, want := range map[int]int{1: 40, 2: 20, 3: 13, 7: 5, 11: 3, 13: 3, 14: 2, 20: 2, 21: 1, 40: 1, 41: 0, 1000: 0} {
			for low := max(0, want-1); low <= want+1; low++ {
				for high := low; high <= want+1; high++ {
					d := api.Dispute{Corners: p, Offs: make([]int, 4), Unit: unit, Wheel: api.Wheel{Full: 10, Guess: span(low, high)}}
					areas, wantE := []int{want}, api.OK
					if want < low || want > high {
						areas, wantE = nil, api.ErrNone
					}
					l, e := discord.Areas(d, 0)
					sameList(t, fmt.Sprint("Areas of ", p, " / ", unit), l, e, areas, wantE)
					n, e := discord.Walks(d)
					same(t, fmt.Sprint("Walks of ", p, " / ", unit), n, e, 0, wantE)
				}
			}
		}
	}
}

// P8.4 to P8.8: what Wrong is does not matter.
func TestWrong(t *testing.T) {
	for wrong := range api.MaxWalks + 1 {
		d := disputeD()
		d.Wheel.Wrong = wrong
		sameFewest(t, d, tried(disputeD(), math.MaxInt))
		sameCorners(t, d, tried(disputeD(), math.MaxInt))
		for faults := range 4 {
			sameAreas(t, d, tried(disputeD(), math.MaxInt), faults)
		}
	}
}

// P8.4, P8.5: with some skews one walk is wrong, and with others another one.
func TestSkews(t *testing.T) {
	d := api.Dispute{Corners: points(0, 0, 10, 0, 10, 5, 0, 5), Offs: make([]int, 4), Unit: 1, Wheel: api.Wheel{Full: 1000, Skew: 2, Guess: span(90, 110)}}
	shows := func(l ...int) {
		d.Walks = nil
		for _, end := range l {
			d.Walks = append(d.Walks, walk(1, 1, 0, 0, end))
		}
	}
	for _, x := range []struct {
		ends          []int
		blamed, sure  []int
		fewest, walks int
	}{
		{nil, nil, nil, 0, 0}, {[]int{99}, nil, nil, 0, 0}, {[]int{99, 101}, []int{0, 1}, nil, 1, 1}, {[]int{99, 101, 99}, []int{1}, []int{1}, 1, 1}, {[]int{103, 101, 99}, []int{0, 1, 2}, []int{0}, 2, 2},
		{[]int{103, 97, 103}, []int{0, 1, 2}, []int{0, 1, 2}, 3, 3}, {[]int{98, 100, 98, 100, 500}, []int{0, 1, 2, 3, 4}, []int{4}, 3, 3}, {[]int{98, 100, 100, 100, 500, 102, 100, 98}, []int{0, 4, 5, 7}, []int{0, 4, 5, 7}, 4, 4},
	} {
		shows(x.ends...)
		_, walks, e := discord.Blamed(d)
		sameList(t, fmt.Sprint("Blamed of ", x.ends), walks, e, x.blamed, api.OK)
		_, walks, e = discord.Sure(d)
		sameList(t, fmt.Sprint("Sure of ", x.ends), walks, e, x.sure, api.OK)
		n, e := discord.Fewest(d)
		same(t, fmt.Sprint("Fewest of ", x.ends), n, e, x.fewest, api.OK)
		n, e = discord.Walks(d)
		same(t, fmt.Sprint("Walks of ", x.ends), n, e, x.walks, api.OK)
	}
}
