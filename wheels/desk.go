package wheels

import (
	"maps"
	"slices"

	"knurl/api"
)

// leastFull is the least number of divisions after which a wheel shows the same.
const leastFull = 10

// desk is a valid wheel, and valid walks of it.
type desk struct {
	api.Wheel
	walks []api.Walk
}

// truth is an area and a skew.
type truth struct{ area, skew int }

func (t truth) theArea() int { return t.area }

func (t truth) theSkew() int { return t.skew }

// lay returns a desk with a wheel and walks, or their first error; ErrNone if there is no truth.
func lay(w api.Wheel, l []api.Walk) (desk, api.Errno) {
	if e := Check(w, l); e != api.OK {
		return desk{}, e
	}
	d := desk{Wheel: w, walks: l}
	for range d.truths {
		return d, api.OK
	}
	return desk{}, api.ErrNone
}

// cases yields each area of Guess with each skew, both ascending, however many walks are not right.
func (d desk) cases(yield func(truth) bool) {
	for area := d.Guess.Low; area <= d.Guess.High; area++ {
		for skew := -d.Skew; skew <= d.Skew; skew++ {
			if !yield(truth{area: area, skew: skew}) {
				return
			}
		}
	}
}

// truths yields all truths, area by area.
func (d desk) truths(yield func(truth) bool) {
	for t := range d.cases {
		if d.wrong(t) <= d.Wrong && !yield(t) {
			return
		}
	}
}

// all returns what is asked of all truths, each number once, ascending.
func (d desk) all(ask func(truth) int) []int {
	found := map[int]bool{}
	for t := range d.truths {
		found[ask(t)] = true
	}
	return slices.Sorted(maps.Keys(found))
}

// wrong returns how many walks are not right.
func (d desk) wrong(t truth) int {
	wrong := 0
	for _, k := range d.walks {
		if !d.right(k, t) {
			wrong++
		}
	}
	return wrong
}

// right returns whether a walk is right.
func (d desk) right(k api.Walk, t truth) bool {
	sure := k.Sense*(t.area-k.Inside*d.Circle) + k.Side*t.skew
	// Seen in the sense of the walk, what is missing is the slip and an error, of which the least is made 0.
	missing := k.Sense*(sure-(k.End-k.Start)) + 2*d.Read
	return modulo(missing, d.Full) <= d.loose()
}

// loose returns by how many divisions the greatest difference of the readings of a right walk is above the least one.
func (d desk) loose() int {
	return d.Slip + 4*d.Read
}

// modulo returns the number from 0 to b - 1 that differs from a by a multiple of b.
func modulo(a, b int) int {
	return (a%b + b) % b
}

func validWheel(w api.Wheel) bool {
	return within(w.Full, leastFull, api.MaxFull) &&
		within(w.Read, 0, api.MaxRead) &&
		within(w.Slip, 0, api.MaxSlip) &&
		within(w.Skew, 0, api.MaxSkew) &&
		within(w.Circle, 0, api.MaxCount) &&
		within(w.Guess.Low, 0, w.Guess.High) && w.Guess.High <= api.MaxCount &&
		within(w.Wrong, 0, api.MaxWalks)
}

// validWalk returns whether a walk is one of a valid wheel.
func validWalk(w api.Wheel, k api.Walk) bool {
	return isSign(k.Sense) && isSign(k.Side) && within(k.Inside, 0, 1) && within(k.Start, 0, w.Full-1) && within(k.End, 0, w.Full-1)
}

// isSign returns whether a number can be a Sense or a Side.
func isSign(n int) bool {
	return n == 1 || n == -1
}

func within(n, low, high int) bool {
	return low <= n && n <= high
}
