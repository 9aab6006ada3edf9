package discord_test

import (
	"maps"
	"math"
	"math/bits"
	"slices"
	"testing"

	"knurl/api"
	"knurl/corners"
)

const mostFaults = api.MaxDispute + api.MaxWalks

func span(low, high int) api.Span { return api.Span{Low: low, High: high} }

// points groups numbers to points.
func points(n ...int) []api.Point {
	var l []api.Point
	for i := 0; i < len(n); i += 2 {
		l = append(l, api.Point{X: n[i], Y: n[i+1]})
	}
	return l
}

func walk(sense, side, inside, start, end int) api.Walk {
	return api.Walk{Sense: sense, Side: side, Inside: inside, Start: start, End: end}
}

// disputeD is D of the chapter's examples.
func disputeD() api.Dispute {
	return api.Dispute{
		Corners: points(0, 0, 4, 0, 4, 4, 0, 4), Offs: []int{0, 1, 1, 1}, Unit: 1,
		Wheel: api.Wheel{Full: 100, Guess: span(20, 40)},
		Walks: []api.Walk{walk(1, 1, 0, 10, 46), walk(-1, 1, 0, 50, 14)},
	}
}

// disputeN is one without a story: no field has an area of Guess.
func disputeN() api.Dispute {
	d := disputeD()
	d.Wheel.Guess = span(3000, 3010)
	return d
}

// copied returns a dispute that shares no memory.
func copied(d api.Dispute) api.Dispute {
	d.Corners, d.Offs, d.Walks = slices.Clone(d.Corners), slices.Clone(d.Offs), slices.Clone(d.Walks)
	return d
}

// areaOf returns the area of a valid polygon in divisions.
func areaOf(t *testing.T, d api.Dispute, p []api.Point) int {
	t.Helper()
	twice, e := corners.Twice(p)
	if e != api.OK {
		t.Fatalf("Twice of %v: %d", p, e)
	}
	return max(twice, -twice) / d.Unit
}

// wrongCorners returns a bit for each corner that differs, and whether all differ by no more than what is allowed.
func wrongCorners(d api.Dispute, p []api.Point) (wrong uint, ok bool) {
	ok = len(p) == len(d.Corners)
	for i := range min(len(p), len(d.Corners)) {
		x, y := p[i].X-d.Corners[i].X, p[i].Y-d.Corners[i].Y
		if max(x, -x) > d.Offs[i] || max(y, -y) > d.Offs[i] {
			ok = false
		}
		if x != 0 || y != 0 {
			wrong |= 1 << i
		}
	}
	return wrong, ok
}

// isRight tries each slip and each error.
func isRight(w api.Wheel, k api.Walk, area, skew int) bool {
	for slip := 0; slip <= w.Slip; slip++ {
		for off := -2 * w.Read; off <= 2*w.Read; off++ {
			shown := k.Sense*(area-k.Inside*w.Circle-slip) + k.Side*skew + off
			if (k.End-k.Start-shown)%w.Full == 0 {
				return true
			}
		}
	}
	return false
}

// wrongWalks returns a bit for each walk that is wrong.
func wrongWalks(d api.Dispute, area, skew int) uint {
	var wrong uint
	for i, k := range d.Walks {
		if !isRight(d.Wheel, k, area, skew) {
			wrong |= 1 << i
		}
	}
	return wrong
}

// tale is what counts of a story: a bit for each wrong corner and for each wrong walk, and the area.
type tale struct {
	corners, walks uint
	area           int
}

func (x tale) faults() int { return bits.OnesCount(x.corners) + bits.OnesCount(x.walks) }

// known is all stories of a dispute, or all of those without too many wrong corners.
type known map[tale]bool

// tried returns all stories with at most so many wrong corners: each corner is put wherever it can be, and each skew is tried.
func tried(d api.Dispute, most int) known {
	k := known{}
	areas := map[int]map[uint]bool{} // for each area the sets of wrong walks
	p := slices.Clone(d.Corners)
	var place func(i, wrong int)
	place = func(i, wrong int) {
		if wrong > most {
			return
		}
		if i == len(p) {
			twice, e := corners.Twice(p)
			area := max(twice, -twice) / d.Unit
			if e != api.OK || area < d.Wheel.Guess.Low || area > d.Wheel.Guess.High {
				return
			}
			if areas[area] == nil {
				areas[area] = map[uint]bool{}
				for skew := -d.Wheel.Skew; skew <= d.Wheel.Skew; skew++ {
					areas[area][wrongWalks(d, area, skew)] = true
				}
			}
			set, _ := wrongCorners(d, p)
			for walks := range areas[area] {
				k[tale{set, walks, area}] = true
			}
			return
		}
		at, off := d.Corners[i], d.Offs[i]
		for x := -off; x <= off; x++ {
			for y := -off; y <= off; y++ {
				p[i] = api.Point{X: at.X + x, Y: at.Y + y}
				differs := 0
				if x != 0 || y != 0 {
					differs = 1
				}
				place(i+1, wrong+differs)
			}
		}
	}
	place(0, 0)
	return k
}

// fewest returns the least number of faults of stories that are asked for, or -1 if there are none.
func (k known) fewest(asked func(tale) bool) int {
	least := -1
	for x := range k {
		if asked(x) && (least < 0 || x.faults() < least) {
			least = x.faults()
		}
	}
	return least
}

func whatever(tale) bool         { return true }
func withoutWalks(x tale) bool   { return x.walks == 0 }
func withoutCorners(x tale) bool { return x.corners == 0 }

// areas returns the areas of stories with at most so many faults.
func (k known) areas(faults int) []int {
	found := map[int]bool{}
	for x := range k {
		if x.faults() <= faults {
			found[x.area] = true
		}
	}
	return slices.Sorted(maps.Keys(found))
}

// blamed returns what is wrong in some story with the fewest faults, and what is wrong in each one.
func (k known) blamed() (some, each tale) {
	fewest := k.fewest(whatever)
	each.corners, each.walks = math.MaxUint, math.MaxUint
	for x := range k {
		if x.faults() == fewest {
			some.corners |= x.corners
			some.walks |= x.walks
			each.corners &= x.corners
			each.walks &= x.walks
		}
	}
	if fewest < 0 {
		return tale{}, tale{}
	}
	return some, each
}

// listed returns the numbers of the bits that are 1.
func listed(set uint) []int {
	var l []int
	for i := range 64 {
		if set>>i&1 == 1 {
			l = append(l, i)
		}
	}
	return l
}

// orNone is a number of faults, and its error: -1 stands for none.
func orNone(faults int) (int, api.Errno) {
	if faults < 0 {
		return 0, api.ErrNone
	}
	return faults, api.OK
}

// numbers is a fixed sequence of numbers that follow no short rule.
type numbers struct{ state uint64 }

// from returns the next number, from low to high.
func (n *numbers) from(low, high int) int {
	n.state = n.state*6364136223846793005 + 1442695040888963407
	return low + int((n.state>>33)%uint64(high-low+1))
}

func (n *numbers) sign() int { return 2*n.from(0, 1) - 1 }

// polygon returns a valid one with so many corners, whose numbers are from 0 to wide.
func (n *numbers) polygon(count, wide int) []api.Point {
	for {
		var p []api.Point
		for range count {
			p = append(p, api.Point{X: n.from(0, wide), Y: n.from(0, wide)})
		}
		if corners.Check(p) == api.OK {
			return p
		}
	}
}

// moved returns a polygon moved to the edge of what is allowed, or somewhere else.
func (n *numbers) moved(p []api.Point, wide int) []api.Point {
	far := api.MaxCoord - wide
	places := []int{-api.MaxCoord, far, 0, -wide / 2, n.from(-api.MaxCoord, far)}
	x, y := places[n.from(0, 4)], places[n.from(0, 4)]
	for i := range p {
		p[i].X += x
		p[i].Y += y
	}
	return p
}

// offs returns by how much corners can be off, such that there are at most so many fields.
func (n *numbers) offs(count, most int) []int {
	l := make([]int, count)
	fields := 1
	for range 2 * count {
		i, off := n.from(0, count-1), n.from(0, api.MaxShift)
		ways := (2*off + 1) * (2*off + 1)
		if l[i] == 0 && fields*ways <= most {
			l[i] = off
			fields *= ways
		}
	}
	return l
}

// wheel returns a valid wheel that can show areas near to one.
func (n *numbers) wheel(area int) api.Wheel {
	w := api.Wheel{Full: n.from(10, 60), Read: max(0, n.from(-2, 1)), Slip: max(0, n.from(-2, 3)), Skew: max(0, n.from(-2, 3)), Circle: n.from(0, 50), Wrong: n.from(0, api.MaxWalks)}
	w.Guess.Low = max(0, area-n.from(-2, 12))
	w.Guess.High = min(api.MaxCount, w.Guess.Low+n.from(0, 24))
	w.Guess.Low = min(w.Guess.Low, w.Guess.High)
	return w
}

// walk returns one that is right for an area and a skew, or else shows anything.
func (n *numbers) walk(w api.Wheel, area, skew int) api.Walk {
	k := walk(n.sign(), n.sign(), n.from(0, 1), n.from(0, w.Full-1), 0)
	shown := k.Sense*(area-k.Inside*w.Circle-n.from(0, w.Slip)) + k.Side*skew + n.from(-2*w.Read, 2*w.Read)
	k.End = ((k.Start+shown)%w.Full + w.Full) % w.Full
	if n.from(0, 5) == 0 {
		k.End = n.from(0, w.Full-1)
	}
	return k
}

// dispute returns a valid one for a polygon, in which most walks are right for an area near to that by the corners.
func (n *numbers) dispute(p []api.Point, offs []int, unit, walks int) api.Dispute {
	d := api.Dispute{Corners: p, Offs: offs, Unit: unit}
	twice, _ := corners.Twice(p)
	area := min(max(twice, -twice)/unit, api.MaxCount)
	d.Wheel = n.wheel(area)
	skew := n.from(-d.Wheel.Skew, d.Wheel.Skew)
	if n.from(0, 2) > 0 {
		area += n.from(-6, 6)
	}
	for range walks {
		d.Walks = append(d.Walks, n.walk(d.Wheel, area, skew))
	}
	return d
}

// small calls a test with disputes of which each field can be tried.
func small(state uint64, times int, try func(n *numbers, d api.Dispute)) {
	n := numbers{state: state}
	for range times {
		count := n.from(api.MinCorners, api.MaxDispute)
		wide := n.from(2, 7)
		p := n.moved(n.polygon(count, wide), wide)
		try(&n, n.dispute(p, n.offs(count, [...]int{81, 250, 729, 2025}[n.from(0, 3)]), n.from(1, n.from(1, 5)), n.from(0, 5)))
	}
}

// large calls a test with disputes of all sizes.
func large(state uint64, times int, try func(n *numbers, d api.Dispute)) {
	n := numbers{state: state}
	for range times {
		count := n.from(api.MinCorners, api.MaxDispute)
		wide := [...]int{6, 20, 100, 2 * api.MaxCoord}[n.from(0, 3)]
		p := n.moved(n.polygon(count, wide), wide)
		unit := max(1, wide*wide/4000) + n.from(0, [...]int{0, 3, 40, 900}[n.from(0, 3)])
		try(&n, n.dispute(p, n.offs(count, math.MaxInt/25), unit, n.from(0, api.MaxWalks)))
	}
}

// wide are numbers at the ends of what an int and a limit can be.
func wide() []int {
	return []int{math.MinInt, math.MinInt + 1, -1000, -201, -200, -15, -2, -1, 0, 1, 2, 3, 6, 7, 8, 9, 14, 15, 20, 21, 200, 201, 1000, 1001, 9999, 10000, 10001, math.MaxInt - 1, math.MaxInt}
}

// badDisputes are disputes that are not valid, each for one reason.
func badDisputes() map[string]api.Dispute {
	bad := map[string]api.Dispute{"zero": {}}
	for name, change := range map[string]func(d *api.Dispute){
		"no corners":  func(d *api.Dispute) { d.Corners, d.Offs = nil, nil },
		"two corners": func(d *api.Dispute) { d.Corners, d.Offs = d.Corners[:2], d.Offs[:2] },
		"seven corners": func(d *api.Dispute) {
			d.Corners, d.Offs = points(0, 0, 4, 0, 4, 1, 4, 2, 4, 3, 4, 4, 0, 4), make([]int, 7)
		},
		"seven corners, six Off": func(d *api.Dispute) {
			d.Corners, d.Offs = points(0, 0, 4, 0, 4, 1, 4, 2, 4, 3, 4, 4, 0, 4), make([]int, 6)
		},
		"two sides that cross": func(d *api.Dispute) { d.Corners = points(0, 0, 4, 4, 4, 0, 0, 4) },
		"two sides that touch": func(d *api.Dispute) { d.Corners = points(0, 0, 4, 0, 4, 4, 2, 0) },
		"a side back":          func(d *api.Dispute) { d.Corners = points(0, 0, 4, 0, 2, 0, 0, 4) },
		"two equal corners":    func(d *api.Dispute) { d.Corners = points(0, 0, 4, 0, 4, 0, 0, 4) },
		"all on a line":        func(d *api.Dispute) { d.Corners, d.Offs = points(0, 0, 2, 0, 4, 0), []int{1, 1, 1} },
		"a corner at 201":      func(d *api.Dispute) { d.Corners[2].X = 201 },
		"a corner at -201":     func(d *api.Dispute) { d.Corners[0].Y = -201 },
		"a corner far out":     func(d *api.Dispute) { d.Corners[2] = api.Point{X: math.MaxInt, Y: math.MaxInt} },
		"a corner far below":   func(d *api.Dispute) { d.Corners[0] = api.Point{X: math.MinInt, Y: math.MinInt} },
		"no Offs":              func(d *api.Dispute) { d.Offs = nil },
		"one of Offs missing":  func(d *api.Dispute) { d.Offs = d.Offs[:3] },
		"one of Offs too much": func(d *api.Dispute) { d.Offs = append(d.Offs, 0) },
		"an Off of 3":          func(d *api.Dispute) { d.Offs[3] = 3 },
		"an Off of -1":         func(d *api.Dispute) { d.Offs[0] = -1 },
		"an Off far out":       func(d *api.Dispute) { d.Offs[1] = math.MaxInt },
		"an Off far below":     func(d *api.Dispute) { d.Offs[1] = math.MinInt },
		"Unit 0":               func(d *api.Dispute) { d.Unit = 0 },
		"Unit -1":              func(d *api.Dispute) { d.Unit = -1 },
		"Unit 1001":            func(d *api.Dispute) { d.Unit = 1001 },
		"Unit far out":         func(d *api.Dispute) { d.Unit = math.MaxInt },
		"Unit far below":       func(d *api.Dispute) { d.Unit = math.MinInt },
		"no wheel":             func(d *api.Dispute) { d.Wheel = api.Wheel{} },
		"Full 9":               func(d *api.Dispute) { d.Wheel.Full, d.Walks = 9, nil },
		"Full 10001":           func(d *api.Dispute) { d.Wheel.Full = 10001 },
		"Read 21":              func(d *api.Dispute) { d.Wheel.Read = 21 },
		"Slip -1":              func(d *api.Dispute) { d.Wheel.Slip = -1 },
		"Skew 21":              func(d *api.Dispute) { d.Wheel.Skew = 21 },
		"Circle 10000":         func(d *api.Dispute) { d.Wheel.Circle = 10000 },
		"Guess turned around":  func(d *api.Dispute) { d.Wheel.Guess = span(40, 20) },
		"Guess to 10000":       func(d *api.Dispute) { d.Wheel.Guess = span(20, 10000) },
		"Guess from -1":        func(d *api.Dispute) { d.Wheel.Guess = span(-1, 40) },
		"Guess without end":    func(d *api.Dispute) { d.Wheel.Guess = span(math.MinInt, math.MaxInt) },
		"Wrong 9":              func(d *api.Dispute) { d.Wheel.Wrong = 9 },
		"Wrong -1":             func(d *api.Dispute) { d.Wheel.Wrong = -1 },
		"nine walks":           func(d *api.Dispute) { d.Walks = slices.Repeat(d.Walks[:1], 9) },
		"a walk of nothing":    func(d *api.Dispute) { d.Walks[1] = api.Walk{} },
		"a walk of no Sense":   func(d *api.Dispute) { d.Walks[1].Sense = 0 },
		"a walk of no Side":    func(d *api.Dispute) { d.Walks[0].Side = 2 },
		"a walk with Inside 2": func(d *api.Dispute) { d.Walks[0].Inside = 2 },
		"a walk from 100":      func(d *api.Dispute) { d.Walks[1].Start = 100 },
		"a walk to -1":         func(d *api.Dispute) { d.Walks[1].End = -1 },
	} {
		d := disputeD()
		change(&d)
		bad[name] = d
	}
	return bad
}

func sameList[T comparable](t *testing.T, call string, got []T, e api.Errno, want []T, wantE api.Errno) {
	t.Helper()
	if !slices.Equal(got, want) || e != wantE {
		t.Errorf("%s = %v, %d; want %v, %d", call, got, e, want, wantE)
	}
}

func same[T comparable](t *testing.T, call string, got T, e api.Errno, want T, wantE api.Errno) {
	t.Helper()
	if got != want || e != wantE {
		t.Errorf("%s = %v, %d; want %v, %d", call, got, e, want, wantE)
	}
}
