package discord

import (
	"cmp"
	"slices"

	"knurl/api"
	"knurl/corners"
	"knurl/wheels"
)

// file is a valid dispute, and what its areas are like.
type file struct {
	api.Dispute
	wrongWalks map[int]int // for each area of Guess that fields may have, how many walks are wrong at the least
	low        int         // the least doubled area, with its sign, that fields may have
	areas      []int       // for each doubled area from low on, the area in divisions, or nowhere
}

// open returns the file of a dispute, or ErrDispute unless this is valid.
func open(d api.Dispute) (file, api.Errno) {
	if e := Check(d); e != api.OK {
		return file{}, e
	}
	f := file{Dispute: d, wrongWalks: map[int]int{}}
	twice, _ := corners.Twice(d.Corners)
	reach := f.reach()
	f.low = twice - reach
	for i := range 2*reach + 1 {
		area := withoutSign(f.low+i) / f.Unit
		if !within(area, f.Wheel.Guess.Low, f.Wheel.Guess.High) {
			area = f.nowhere()
		} else if _, known := f.wrongWalks[area]; !known {
			f.wrongWalks[area] = f.fewestWalks(area, f.Walks)
		}
		f.areas = append(f.areas, area)
	}
	return f, api.OK
}

// nowhere stands for all areas that are not in Guess.
func (f file) nowhere() int {
	return f.Wheel.Guess.High + 1
}

// reach returns by how much the doubled area of a field can differ, at the most, from that by the corners. A corner that is off by x and y changes it by x * (b.Y - a.Y) - y * (b.X - a.X), a and b being its neighbours; each two neighbours add the cross product of that by which they are off.
func (f file) reach() int {
	reach := 0
	for i, off := range f.Offs {
		n := len(f.Offs)
		a, b := f.Corners[(i+n-1)%n], f.Corners[(i+1)%n]
		reach += off*(withoutSign(b.X-a.X)+withoutSign(b.Y-a.Y)) + 2*off*f.Offs[(i+1)%n]
	}
	return reach
}

// sets returns all sets of corners that can be wrong together, those with fewer corners first.
func (f file) sets() []set {
	var firm set
	for i, off := range f.Offs {
		if off == 0 {
			firm |= 1 << i
		}
	}
	var l []set
	for s := range set(1) << len(f.Offs) {
		if s&firm == 0 {
			l = append(l, s)
		}
	}
	slices.SortFunc(l, func(a, b set) int {
		return cmp.Or(cmp.Compare(a.count(), b.count()), cmp.Compare(a, b))
	})
	return l
}

// fewest returns the stories with the fewest faults of those that are asked for, each with a field of it.
func (f file) fewest(asked func(story) bool) map[story][]api.Point {
	stories := map[story][]api.Point{}
	most := mostFaults
	for _, wrong := range f.sets() {
		found := f.fields(wrong, func(s story) bool { return s.count() <= most && asked(s) })
		for s, field := range found {
			stories[s] = field
			most = min(most, s.count())
		}
	}
	for s := range stories {
		if s.count() > most {
			delete(stories, s)
		}
	}
	return stories
}

// fewestWalks returns how many of some walks are wrong at the least, with an area.
func (f file) fewestWalks(area int, l []api.Walk) int {
	fewest, _ := wheels.Fewest(f.wheel(area), l)
	return fewest
}

// wheel returns the wheel with one area alone, and with as few wrong walks as this allows.
func (f file) wheel(area int) api.Wheel {
	w := f.Wheel
	w.Guess = api.Span{Low: area, High: area}
	w.Wrong = f.wrongWalks[area]
	return w
}

// wrongInSome returns all walks that are wrong with some of the skews with which the fewest are: without such a walk one less is wrong.
func (f file) wrongInSome(area int) set {
	var s set
	for i := range f.Walks {
		others := slices.Delete(slices.Clone(f.Walks), i, i+1)
		if f.fewestWalks(area, others) < f.wrongWalks[area] {
			s |= 1 << i
		}
	}
	return s
}

// wrongInEach returns all walks that are wrong with each of the skews with which the fewest are.
func (f file) wrongInEach(area int) set {
	var s set
	strange, _ := wheels.Strange(f.wheel(area), f.Walks)
	for _, i := range strange {
		s |= 1 << i
	}
	return s
}

// withoutSign returns how far a number is from 0.
func withoutSign(n int) int {
	return max(n, -n)
}
