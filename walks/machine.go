package walks

import (
	"iter"

	"knurl/api"
)

// leastClosed is the least number of places of a closed track: with fewer ones the next place would also be the one before.
const leastClosed = 3

// machine is a valid track, and a valid walk of the tracer.
type machine struct {
	api.Track
	walk []api.Point
}

// set returns a machine with a track and a walk, or their first error; ErrNone if the walk has no elbows.
func set(t api.Track, walk []api.Point) (machine, api.Errno) {
	if e := Check(t, walk); e != api.OK {
		return machine{}, e
	}
	m := machine{Track: t, walk: walk}
	for range m.elbows {
		return m, api.OK
	}
	return machine{}, api.ErrNone
}

// moved returns a machine with a track and a walk, or their first error; ErrArg unless elbows are some of the walk.
func moved(t api.Track, walk []api.Point, elbows []int) (machine, api.Errno) {
	if e := Check(t, walk); e != api.OK {
		return machine{}, e
	}
	m := machine{Track: t, walk: walk}
	if !m.carry(elbows) {
		return machine{}, api.ErrArg
	}
	return m, api.OK
}

// elbows yields all elbows of the walk. What it yields may be kept.
func (m machine) elbows(yield func([]int) bool) {
	m.goOn(yield)
}

// goOn yields all elbows that begin with some places, and returns whether more are asked for.
func (m machine) goOn(yield func([]int) bool, places ...int) bool {
	n := len(places)
	if n == len(m.walk) {
		return !m.near(places[n-1], places[0]) || yield(places)
	}
	for _, place := range m.reach(m.walk[n]) {
		if n > 0 && !m.near(places[n-1], place) {
			continue
		}
		// Behind the third index nothing is left to append to, so that no two elbows share memory.
		if !m.goOn(yield, append(places[:n:n], place)...) {
			return false
		}
	}
	return true
}

// carry returns whether places are elbows of the walk.
func (m machine) carry(places []int) bool {
	if len(places) != len(m.walk) {
		return false
	}
	for stop, place := range places {
		if !within(place, 0, len(m.Points)-1) || !m.reaches(place, m.walk[stop]) {
			return false
		}
	}
	for from, to := range around(places) {
		if !m.near(from, to) {
			return false
		}
	}
	return true
}

// reach returns all places from which the arm reaches a point.
func (m machine) reach(at api.Point) []int {
	var places []int
	for place := range m.Points {
		if m.reaches(place, at) {
			places = append(places, place)
		}
	}
	return places
}

// reaches returns whether the arm reaches a point from a place.
func (m machine) reaches(place int, at api.Point) bool {
	x, y := at.X-m.Points[place].X, at.Y-m.Points[place].Y
	return within(x*x+y*y, m.Arm.Low, m.Arm.High)
}

// near returns whether the elbow can go from a place to another one, or stay there, before the tracer is at its next point.
func (m machine) near(from, to int) bool {
	return within(m.step(from, to), -1, 1)
}

// step returns by how many places another one is ahead. On a closed track the first one is also the next one behind the last one.
func (m machine) step(from, to int) int {
	ahead, last := to-from, len(m.Points)-1
	switch {
	case m.Closed == 1 && ahead == last:
		return -1
	case m.Closed == 1 && ahead == -last:
		return 1
	}
	return ahead
}

// sweep returns the sweep of elbows.
func (m machine) sweep(elbows []int) int {
	sum := 0
	for stop, place := range elbows {
		next := (stop + 1) % len(elbows)
		sum += doubled(m.Points[place], m.walk[stop], m.walk[next], m.Points[elbows[next]])
	}
	return sum
}

// turns returns the turns of elbows. On a track that is not closed as many steps go ahead as go back.
func (m machine) turns(elbows []int) int {
	ahead := 0
	for from, to := range around(elbows) {
		ahead += m.step(from, to)
	}
	return ahead / len(m.Points)
}

// moves returns how often the place changes.
func (m machine) moves(elbows []int) int {
	moves := 0
	for from, to := range around(elbows) {
		if from != to {
			moves++
		}
	}
	return moves
}

// calmest returns elbows with the fewest moves. There are elbows.
func (m machine) calmest() []int {
	var best []int
	for elbows := range m.elbows {
		if best == nil || m.moves(elbows) < m.moves(best) {
			best = elbows
		}
	}
	return best
}

// around yields each element with the next one, and the last one with the first one.
func around[T any](l []T) iter.Seq2[T, T] {
	return func(yield func(a, b T) bool) {
		for i, a := range l {
			if !yield(a, l[(i+1)%len(l)]) {
				return
			}
		}
	}
}

// doubled returns the doubled area of points that follow each other.
func doubled(l ...api.Point) int {
	sum := 0
	for a, b := range around(l) {
		sum += a.X*b.Y - a.Y*b.X
	}
	return sum
}

func validTrack(t api.Track) bool {
	if !within(len(t.Points), 1, api.MaxTrack) || !within(t.Closed, 0, 1) || t.Closed == 1 && len(t.Points) < leastClosed {
		return false
	}
	return validPoints(t.Points) && within(t.Arm.Low, 0, t.Arm.High) && t.Arm.High <= api.MaxSquare
}

func validWalk(walk []api.Point) bool {
	return within(len(walk), 1, api.MaxStops) && validPoints(walk)
}

func validPoints(l []api.Point) bool {
	for _, at := range l {
		if !validPoint(at) {
			return false
		}
	}
	return true
}

func validPoint(at api.Point) bool {
	return within(at.X, -api.MaxCoord, api.MaxCoord) && within(at.Y, -api.MaxCoord, api.MaxCoord)
}

func within(n, low, high int) bool {
	return low <= n && n <= high
}
