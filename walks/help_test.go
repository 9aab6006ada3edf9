package walks_test

import (
	"math"
	"slices"
	"testing"

	"knurl/api"
)

func span(low, high int) api.Span { return api.Span{Low: low, High: high} }

func point(x, y int) api.Point { return api.Point{X: x, Y: y} }

// points pairs numbers to points.
func points(n ...int) []api.Point {
	var l []api.Point
	for i := 0; i < len(n); i += 2 {
		l = append(l, point(n[i], n[i+1]))
	}
	return l
}

// open and closed are tracks whose arm reaches from low to high, squared.
func open(low, high int, l []api.Point) api.Track { return api.Track{Points: l, Arm: span(low, high)} }

func closed(low, high int, l []api.Point) api.Track {
	return api.Track{Points: l, Closed: 1, Arm: span(low, high)}
}

// trackK, walkA, trackC and walkB are K, A, C and B of the chapter's examples.
func trackK() api.Track { return open(1, 13, points(0, 0, 2, 0, 4, 0)) }

func walkA() []api.Point { return points(0, 2, 4, 2, 4, 3, 0, 3) }

func trackC() api.Track { return closed(1, 2, points(0, 0, 2, 0, 2, 2, 0, 2)) }

func walkB() []api.Point { return points(-1, -1, 3, -1, 3, 3, -1, 3) }

// ring is a closed track with as many places as there can be, the farthest ones. Its arm reaches everything.
func ring() api.Track {
	return closed(0, api.MaxSquare, points(200, 0, 200, 200, 0, 200, -200, 200, -200, 0, -200, -200, 0, -200, 200, -200))
}

// rail is the ring, cut between its last place and the first one.
func rail() api.Track {
	t := ring()
	t.Closed = 0
	return t
}

// whole is a walk around everything, with as many points as there can be.
func whole() []api.Point {
	return points(200, 200, 0, 200, -200, 200, -200, 0, -200, -200, 0, -200, 200, -200, 200, 0)
}

// quad is the doubled area of four points: the cross product of its diagonals.
func quad(a, b, c, d api.Point) int {
	return (c.X-a.X)*(d.Y-b.Y) - (c.Y-a.Y)*(d.X-b.X)
}

// trapezoids is the doubled area of points that follow each other, by what lies between each side and the X axis.
func trapezoids(l []api.Point) int {
	sum := 0
	for i, b := range l {
		a := l[(i+len(l)-1)%len(l)]
		sum += (a.X - b.X) * (a.Y + b.Y)
	}
	return sum
}

// neighbours returns, for each place of a track, where the elbow can go from it, without those that are equal.
func neighbours(t api.Track, place int) []int {
	last := len(t.Points) - 1
	l := []int{place}
	if place > 0 {
		l = append(l, place-1)
	}
	if place < last {
		l = append(l, place+1)
	}
	if t.Closed == 1 && place == 0 {
		l = append(l, last)
	}
	if t.Closed == 1 && place == last {
		l = append(l, 0)
	}
	return l
}

// reached returns whether the arm reaches a point from a place. The square of the distance is worked out by the law of cosines.
func reached(t api.Track, place int, at api.Point) bool {
	p := t.Points[place]
	square := p.X*p.X + p.Y*p.Y + at.X*at.X + at.Y*at.Y - 2*(p.X*at.X+p.Y*at.Y)
	return square >= t.Arm.Low && square <= t.Arm.High
}

// trip is what elbows do until they come to a place: where they began, their moves, how often they went from the last place to the first one, less how often back, and what the arm swept.
type trip struct{ first, now, moves, turns, sweep int }

// known is what is to be known of all elbows of a walk.
type known struct {
	many, least  int
	rolls, turns []int
}

func (k known) error() api.Errno {
	if k.many == 0 {
		return api.ErrNone
	}
	return api.OK
}

// after returns the trip after the elbow has gone to a place, and the tracer from one point to another one.
func (x trip) after(t api.Track, place int, a, b api.Point) trip {
	last := len(t.Points) - 1
	x.sweep += quad(t.Points[x.now], a, b, t.Points[place])
	switch {
	case t.Closed == 1 && x.now == last && place == 0:
		x.turns++
	case t.Closed == 1 && x.now == 0 && place == last:
		x.turns--
	}
	if x.now != place {
		x.moves++
	}
	x.now = place
	return x
}

// counted works out what is known by counting equal trips together, point by point.
func counted(t api.Track, walk []api.Point) known {
	trips := map[trip]int{}
	for place := range t.Points {
		if reached(t, place, walk[0]) {
			trips[trip{first: place, now: place}] = 1
		}
	}
	for i := 1; i < len(walk); i++ {
		longer := map[trip]int{}
		for x, count := range trips {
			for _, place := range neighbours(t, x.now) {
				if reached(t, place, walk[i]) {
					longer[x.after(t, place, walk[i-1], walk[i])] += count
				}
			}
		}
		trips = longer
	}
	k := known{least: math.MaxInt}
	for x, count := range trips {
		if !slices.Contains(neighbours(t, x.now), x.first) {
			continue
		}
		x = x.after(t, x.first, walk[len(walk)-1], walk[0])
		k.many += count
		k.least = min(k.least, x.moves)
		k.rolls = append(k.rolls, x.sweep)
		k.turns = append(k.turns, x.turns)
	}
	if k.many == 0 {
		return known{}
	}
	slices.Sort(k.rolls)
	slices.Sort(k.turns)
	k.rolls, k.turns = slices.Compact(k.rolls), slices.Compact(k.turns)
	return k
}

// areElbows returns whether places are elbows of a walk, straight from the definition.
func areElbows(t api.Track, walk []api.Point, places []int) bool {
	if len(places) != len(walk) {
		return false
	}
	for i, place := range places {
		if place < 0 || place >= len(t.Points) || !reached(t, place, walk[i]) {
			return false
		}
		if !slices.Contains(neighbours(t, place), places[(i+1)%len(places)]) {
			return false
		}
	}
	return true
}

// trial is what some elbows do, point by point.
func trial(t api.Track, walk []api.Point, elbows []int) trip {
	x := trip{first: elbows[0], now: elbows[0]}
	for i := range walk {
		next := (i + 1) % len(walk)
		x = x.after(t, elbows[next], walk[i], walk[next])
	}
	return x
}

// lists calls a test with all lists of so many numbers from low to high. It uses one list again and again.
func lists(length, low, high int, try func(l []int)) {
	l := slices.Repeat([]int{low}, length)
	for {
		try(l)
		i := 0
		for i < length && l[i] == high {
			l[i] = low
			i++
		}
		if i == length {
			return
		}
		l[i]++
	}
}

// allElbows returns all elbows of a walk, in any order.
func allElbows(t api.Track, walk []api.Point) [][]int {
	var all [][]int
	lists(len(walk), 0, len(t.Points)-1, func(l []int) {
		if areElbows(t, walk, l) {
			all = append(all, slices.Clone(l))
		}
	})
	return all
}

// numbers is a fixed sequence of numbers that follow no short rule.
type numbers struct{ state uint64 }

// from returns the next number, from low to high.
func (n *numbers) from(low, high int) int {
	n.state = n.state*6364136223846793005 + 1442695040888963407
	return low + int((n.state>>33)%uint64(high-low+1))
}

func (n *numbers) point(most int) api.Point { return point(n.from(-most, most), n.from(-most, most)) }

// points returns up to so many points; now and then one comes again.
func (n *numbers) points(least, greatest, most int) []api.Point {
	var l []api.Point
	for range n.from(least, greatest) {
		if len(l) > 0 && n.from(0, 9) == 0 {
			l = append(l, l[n.from(0, len(l)-1)])
			continue
		}
		l = append(l, n.point(most))
	}
	return l
}

// track returns one with at most so many places, and an arm that reaches everything, or about as far as from one of its places to one of some points.
func (n *numbers) track(places, most int, walk []api.Point) api.Track {
	t := api.Track{Closed: n.from(0, 1)}
	t.Points = n.points([...]int{1, 3}[t.Closed], places, most)
	t.Arm = span(0, api.MaxSquare)
	if n.from(0, 3) > 0 {
		a, b := t.Points[n.from(0, len(t.Points)-1)], walk[n.from(0, len(walk)-1)]
		x, y := a.X-b.X, a.Y-b.Y
		about := x*x + y*y
		t.Arm = span(max(0, about-n.from(0, about)), min(api.MaxSquare, about+n.from(0, 3*most*most)))
	}
	return t
}

// each calls a test with tracks and walks that are valid, of up to so many places and points; most of the walks have elbows.
func each(state uint64, times, places, stops int, try func(n *numbers, t api.Track, walk []api.Point)) {
	n := numbers{state: state}
	for range times {
		most := [...]int{2, 5, 20, api.MaxCoord}[n.from(0, 3)]
		walk := n.points(1, stops, most)
		try(&n, n.track(places, most, walk), walk)
	}
}

// wide are numbers at the ends of what an int and a limit can be.
func wide() []int {
	return []int{math.MinInt, math.MinInt + 1, -201, -200, -1, 0, 1, 2, 3, 7, 8, 9, 200, 201, 319999, 320000, 320001, math.MaxInt - 1, math.MaxInt}
}

// badTracks are tracks that are not valid, each for one reason.
func badTracks() map[string]api.Track {
	bad := map[string]api.Track{"zero": {}}
	for name, change := range map[string]func(t *api.Track){
		"no place":          func(t *api.Track) { t.Points = nil },
		"an empty list":     func(t *api.Track) { t.Points = []api.Point{} },
		"nine places":       func(t *api.Track) { t.Points = slices.Repeat(t.Points, 3) },
		"closed with one":   func(t *api.Track) { t.Points, t.Closed = t.Points[:1], 1 },
		"closed with two":   func(t *api.Track) { t.Points, t.Closed = t.Points[:2], 1 },
		"Closed 2":          func(t *api.Track) { t.Closed = 2 },
		"Closed -1":         func(t *api.Track) { t.Closed = -1 },
		"Closed far beyond": func(t *api.Track) { t.Closed = math.MinInt },
		"X 201":             func(t *api.Track) { t.Points[1].X = 201 },
		"X -201":            func(t *api.Track) { t.Points[0].X = -201 },
		"Y 201":             func(t *api.Track) { t.Points[2].Y = 201 },
		"Y -201":            func(t *api.Track) { t.Points[1].Y = -201 },
		"X far beyond":      func(t *api.Track) { t.Points[1].X = math.MinInt },
		"Y far beyond":      func(t *api.Track) { t.Points[1].Y = math.MaxInt },
		"an arm below 0":    func(t *api.Track) { t.Arm.Low = -1 },
		"an arm too long":   func(t *api.Track) { t.Arm.High = 320001 },
		"a turned arm":      func(t *api.Track) { t.Arm = span(14, 13) },
		"an endless arm":    func(t *api.Track) { t.Arm = span(math.MinInt, math.MaxInt) },
		"all of it below 0": func(t *api.Track) { t.Arm = span(-2, -1) },
		"all of it beyond":  func(t *api.Track) { t.Arm = span(320001, 320001) },
	} {
		t := trackK()
		change(&t)
		bad[name] = t
	}
	return bad
}

// badWalks are walks that are not valid.
func badWalks() map[string][]api.Point {
	return map[string][]api.Point{
		"nil":               nil,
		"empty":             {},
		"nine points":       slices.Repeat(points(0, 2, 1, 2, 2, 2), 3),
		"nine equal points": slices.Repeat(points(0, 2), 9),
		"X 201":             points(201, 0),
		"X -201":            points(0, 2, -201, 0),
		"Y 201":             points(0, 2, 4, 2, 0, 201),
		"Y -201":            points(0, -201, 0, 2),
		"far beyond":        points(0, 2, math.MinInt, math.MaxInt),
	}
}

// badPoints are points to which the tracer cannot go.
func badPoints() []api.Point {
	return points(201, 0, -201, 0, 0, 201, 0, -201, math.MaxInt, math.MinInt)
}

// badElbows are no elbows of the walk A on the track K.
func badElbows() map[string][]int {
	return map[string][]int{
		"nil":                     nil,
		"empty":                   {},
		"too few":                 {1, 1, 1},
		"too many":                {1, 1, 1, 1, 1},
		"below 0":                 {0, 1, 1, -1},
		"beyond the track":        {1, 2, 3, 2},
		"far below":               {math.MinInt, 1, 1, 1},
		"far beyond":              {1, 1, 1, math.MaxInt},
		"what is not reached":     {2, 1, 1, 1},
		"what is not reached now": {1, 0, 1, 1},
		"two places at once":      {0, 2, 1, 1},
		"two places back":         {0, 1, 2, 0},
	}
}

// backwards returns a list in the other order.
func backwards[T any](l []T) []T {
	l = slices.Clone(l)
	slices.Reverse(l)
	return l
}

// from returns a list that begins at another element.
func from[T any](l []T, at int) []T {
	return slices.Concat(l[at:], l[:at])
}

func sameList(t *testing.T, call string, got []int, e api.Errno, want []int, wantE api.Errno) {
	t.Helper()
	if !slices.Equal(got, want) || e != wantE {
		t.Errorf("%s = %v, %d; want %v, %d", call, got, e, want, wantE)
	}
}

func sameInt(t *testing.T, call string, got int, e api.Errno, want int, wantE api.Errno) {
	t.Helper()
	if got != want || e != wantE {
		t.Errorf("%s = %d, %d; want %d, %d", call, got, e, want, wantE)
	}
}
