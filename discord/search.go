package discord

import (
	"slices"

	"knurl/api"
)

// search is one for fields with certain wrong corners. Corners are placed one after the other, so that most of what cannot be a polygon is given up early. The last one placed is a wrong one, if there is one: of its many places all but those with a wanted area are passed over quickly.
type search struct {
	file
	wrong  set
	first  int           // the corner that is placed first
	places [][]api.Point // where each corner can be, from the first one on
	placed []api.Point   // where each corner is, from the first one on
	wanted []bool        // for each area, whether a field is wanted
	left   int           // how many fields are wanted
	found  map[story][]api.Point
}

// fields returns the stories with certain wrong corners that are asked for, each with a field of it.
func (f file) fields(wrong set, asked func(story) bool) map[story][]api.Point {
	n := len(f.Corners)
	s := search{file: f, wrong: wrong, first: wrong.end() % n, placed: make([]api.Point, n), wanted: make([]bool, f.nowhere()+1), found: map[story][]api.Point{}}
	for i := range n {
		s.places = append(s.places, s.placesOf((s.first+i)%n))
	}
	for area := range f.wrongWalks {
		if asked(s.story(area)) {
			s.wanted[area] = true
			s.left++
		}
	}
	if s.left > 0 {
		s.place(0, 0)
	}
	return s.found
}

// story returns the one with the wrong corners and an area.
func (s *search) story(area int) story {
	return story{faults{corners: s.wrong, walks: s.wrongWalks[area]}, area}
}

// placesOf returns where a corner can be.
func (s *search) placesOf(corner int) []api.Point {
	at, off := s.Corners[corner], s.Offs[corner]
	if !s.wrong.has(corner) {
		return []api.Point{at}
	}
	var l []api.Point
	for x := max(at.X-off, -api.MaxCoord); x <= min(at.X+off, api.MaxCoord); x++ {
		for y := max(at.Y-off, -api.MaxCoord); y <= min(at.Y+off, api.MaxCoord); y++ {
			if p := (api.Point{X: x, Y: y}); p != at {
				l = append(l, p)
			}
		}
	}
	return l
}

// place puts a corner, and all behind it, wherever they can be, until nothing is wanted any more; twice is the doubled area of the polygon of those before it.
func (s *search) place(i, twice int) {
	if i == len(s.placed)-1 {
		s.placeLast(twice)
		return
	}
	for _, at := range s.places[i] {
		if s.left == 0 {
			return
		}
		s.placed[i] = at
		if s.fits(i) {
			s.place(i+1, twice+turn(s.placed[0], s.placed[max(i-1, 0)], at))
		}
	}
}

// placeLast puts the last corner wherever it can be. Its area is looked up first, as this takes the least time.
func (s *search) placeLast(twice int) {
	last := len(s.placed) - 1
	a, b := s.placed[0], s.placed[last-1]
	for _, at := range s.places[last] {
		area := s.areas[twice+turn(a, b, at)-s.low]
		if !s.wanted[area] {
			continue
		}
		s.placed[last] = at
		if s.fits(last) && s.closes() {
			s.take(area)
		}
	}
}

// take keeps what is placed as the field for an area, which then is not wanted any more.
func (s *search) take(area int) {
	from := len(s.placed) - s.first
	s.found[s.story(area)] = slices.Concat(s.placed[from:], s.placed[:from])
	s.wanted[area] = false
	s.left--
}

// fits returns whether the side to a corner has nothing in common with those before it, but for the corner from which it goes.
func (s *search) fits(i int) bool {
	if i < 2 {
		return true
	}
	from, to := s.placed[i-1], s.placed[i]
	return !folds(s.placed[i-2], from, to) && !meets(from, to, s.placed[:i-1:i-1]...)
}

// closes returns whether the side from the last corner to the first one has nothing in common with the others, but for these corners.
func (s *search) closes() bool {
	last := len(s.placed) - 1
	from, to := s.placed[last], s.placed[0]
	return !folds(s.placed[last-1], from, to) && !folds(from, to, s.placed[1]) && !meets(from, to, s.placed[1:last:last]...)
}
