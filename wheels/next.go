package wheels

import (
	"slices"

	"knurl/api"
)

// kind is the sense of a walk outside of the figure, and the side of its pole.
type kind [2]int

// turned returns the kind of the other sense and the other side: with its readings exchanged, a walk of it is right in the same truths.
func (k kind) turned() kind {
	return kind{-k[0], -k[1]}
}

// Worst returns how many areas are left at the most by one more walk.
func Worst(w api.Wheel, l []api.Walk, sense, side int) (int, api.Errno) {
	if e := Check(w, l); e != api.OK {
		return 0, e
	}
	if !isSign(sense) || !isSign(side) {
		return 0, api.ErrArg
	}
	d, e := lay(w, l)
	if e != api.OK {
		return 0, e
	}
	return d.worst(kind{sense, side}), api.OK
}

// Next returns which walk leaves the fewest areas.
func Next(w api.Wheel, l []api.Walk) (sense, side int, e api.Errno) {
	d, e := lay(w, l)
	if e != api.OK {
		return 0, 0, e
	}
	worst := map[kind]int{}
	best := kind{1, 1}
	for _, k := range [...]kind{{1, 1}, {1, -1}, {-1, 1}, {-1, -1}} {
		left, known := worst[k.turned()]
		if !known {
			left = d.worst(k)
		}
		worst[k] = left
		if left < worst[best] {
			best = k
		}
	}
	return best[0], best[1], api.OK
}

// worst returns the greatest number of areas of truths for which one more walk is right with the same difference of its readings.
func (d desk) worst(k kind) int {
	areas := make([]int, d.Full) // how many there are for each difference
	// Truths come area by area, so that only the area counted last for a difference could be counted twice. It is kept greater by 1: 0 means none.
	last := make([]int, d.Full)
	for t := range d.truths {
		// A slip and an error allow several differences, side by side. The least one of them is as far from this one in each truth, so that beginning here changes no greatest number.
		difference := modulo(k[0]*t.area+k[1]*t.skew, d.Full)
		for range d.loose() + 1 {
			if last[difference] != t.area+1 {
				last[difference] = t.area + 1
				areas[difference]++
			}
			difference++
			if difference == d.Full {
				difference = 0
			}
		}
	}
	return slices.Max(areas)
}
