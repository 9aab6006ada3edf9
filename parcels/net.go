package parcels

import (
	"slices"

	"knurl/api"
)

// net is a plat whose parcels run from its rows to its columns. A parcel of it that was settled can have a greater area than one of a valid plat.
type net struct{ api.Plat }

// laid returns a net; ErrPlat unless its plat is valid, ErrNone if there is no adjustment.
func laid(p api.Plat) (net, api.Errno) {
	if e := Check(p); e != api.OK {
		return net{}, e
	}
	n := net{p}
	if !n.fits() {
		return net{}, api.ErrNone
	}
	return n, api.OK
}

// fits returns whether there is an adjustment.
func (n net) fits() bool {
	_, found := n.proof()
	return !found
}

// with returns a net whose parcels are changed.
func (n net) with(change func(number int, p *api.Parcel)) net {
	n.Parcels = slices.Clone(n.Parcels)
	for number := range n.Parcels {
		change(number, &n.Parcels[number])
	}
	return n
}

// settled returns a net in which a parcel has just one area that it can have.
func (n net) settled(parcel, area int) net {
	return n.with(func(number int, p *api.Parcel) {
		if number == parcel {
			p.Area, p.Off = area, 0
		}
	})
}

// upTo returns a net without changes above a number.
func (n net) upTo(most int) net {
	return n.with(func(_ int, p *api.Parcel) { p.Off = min(p.Off, most) })
}

// only returns a net in which no parcel is changed but those of a set.
func (n net) only(some set) net {
	return n.with(func(number int, p *api.Parcel) { p.Off *= some.has(number) })
}

// worst returns the least number such that there is an adjustment without a change above it. There is an adjustment.
func (n net) worst() int {
	for most := range api.MaxOff {
		if n.upTo(most).fits() {
			return most
		}
	}
	return api.MaxOff
}

// few returns the least number of parcels that are changed in an adjustment. There is an adjustment.
func (n net) few() int {
	few := len(n.Parcels)
	for some := range sets(len(n.Parcels)) {
		if count := len(some.list()); count < few && n.only(some).fits() {
			few = count
		}
	}
	return few
}

// filling returns an adjustment: parcel by parcel is settled as close to its measured area as those before allow. There is an adjustment.
func (n net) filling() []int {
	var areas []int
	for parcel, p := range n.Parcels {
		s := n.span(parcel)
		area := min(max(p.Area, s.Low), s.High)
		n = n.settled(parcel, area)
		areas = append(areas, area)
	}
	return areas
}

// closest returns an adjustment whose changes have the least sum. There is an adjustment. Two adjustments differ by steps of which none undoes what another one does, so that each of them leads from the one to another adjustment. The first step of a parcel makes its change less by as much as any later one, or more: if all steps together make the sum less, so does one of them alone.
func (n net) closest() []int {
	areas := n.filling()
	try := func(s step) bool {
		next := s.from(areas)
		if !n.allow(next) || n.changes(next) >= n.changes(areas) {
			return false
		}
		areas = next
		return true
	}
	steps := slices.Collect(n.steps)
	for better := true; better; {
		better = slices.ContainsFunc(steps, try)
	}
	return areas
}

// step is a set of parcels that become greater by 1, and one of parcels that become less by 1.
type step struct{ up, down set }

// change returns by how much a parcel becomes greater.
func (s step) change(parcel int) int {
	return s.up.has(parcel) - s.down.has(parcel)
}

// from returns areas after a step.
func (s step) from(areas []int) []int {
	next := slices.Clone(areas)
	for parcel := range next {
		next[parcel] += s.change(parcel)
	}
	return next
}

// steps yields all steps that change the sum of no strip.
func (n net) steps(yield func(step) bool) {
	for up := range sets(len(n.Parcels)) {
		for down := range sets(len(n.Parcels)) {
			s := step{up: up, down: down}
			if up&down == 0 && n.totals(s.change) == (totals{}) && !yield(s) {
				return
			}
		}
	}
}

// totals is the sum of each strip.
type totals struct{ rows, cols [api.MaxStrips]int }

// totals returns the sum of each strip, each parcel counting as much as a function says.
func (n net) totals(count func(parcel int) int) totals {
	var t totals
	for parcel, p := range n.Parcels {
		if p.Row >= 0 {
			t.rows[p.Row] += count(parcel)
		}
		if p.Col >= 0 {
			t.cols[p.Col] += count(parcel)
		}
	}
	return t
}

// wanted returns the sums that an adjustment has.
func (n net) wanted() totals {
	var t totals
	copy(t.rows[:], n.Rows)
	copy(t.cols[:], n.Cols)
	return t
}

// filledBy returns whether areas are an adjustment. There is one for each parcel.
func (n net) filledBy(areas []int) bool {
	return n.allow(areas) && n.totals(func(parcel int) int { return areas[parcel] }) == n.wanted()
}

// allow returns whether each parcel can have its area.
func (n net) allow(areas []int) bool {
	for parcel, p := range n.Parcels {
		if !within(areas[parcel], least(p), greatest(p)) {
			return false
		}
	}
	return true
}

// changes returns the sum of all changes.
func (n net) changes(areas []int) int {
	sum := 0
	for parcel, p := range n.Parcels {
		sum += max(areas[parcel]-p.Area, p.Area-areas[parcel])
	}
	return sum
}

// least returns the least area that a parcel can have.
func least(p api.Parcel) int {
	return max(p.Area-p.Off, 0)
}

// greatest returns the greatest area that a parcel can have.
func greatest(p api.Parcel) int {
	return p.Area + p.Off
}

func validStrips(areas []int) bool {
	for _, area := range areas {
		if !within(area, 0, api.MaxStrip) {
			return false
		}
	}
	return len(areas) <= api.MaxStrips
}

func validParcel(p api.Parcel, rows, cols int) bool {
	return within(p.Row, -1, rows-1) && within(p.Col, -1, cols-1) && within(p.Area, 0, api.MaxParcel) && within(p.Off, 0, api.MaxOff)
}

func within(n, low, high int) bool {
	return low <= n && n <= high
}
