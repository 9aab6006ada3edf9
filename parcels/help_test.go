package parcels_test

import (
	"math"
	"slices"
	"testing"

	"knurl/api"
)

func span(low, high int) api.Span { return api.Span{Low: low, High: high} }

func parcel(row, col, area, off int) api.Parcel {
	return api.Parcel{Row: row, Col: col, Area: area, Off: off}
}

// plat groups numbers to parcels.
func plat(rows, cols []int, n ...int) api.Plat {
	p := api.Plat{Rows: rows, Cols: cols}
	for i := 0; i < len(n); i += 4 {
		p.Parcels = append(p.Parcels, parcel(n[i], n[i+1], n[i+2], n[i+3]))
	}
	return p
}

// platP and platQ are P and Q of the chapter's examples.
func platP() api.Plat {
	return plat([]int{31, 46}, []int{27, 50}, 0, 0, 10, 2, 0, 1, 20, 3, 1, 0, 15, 1, 1, 1, 30, 2)
}

func platQ() api.Plat {
	p := platP()
	p.Cols = []int{30, 47}
	return p
}

// greatestPlat is one with the greatest numbers; its areas are just those that its strips allow at the most.
func greatestPlat() api.Plat {
	p := plat(slices.Repeat([]int{2 * 1098}, 4), slices.Repeat([]int{2 * 1098}, 4))
	for i := range api.MaxParcels {
		p.Parcels = append(p.Parcels, parcel(i/2, i%4, api.MaxParcel, api.MaxOff))
	}
	return p
}

// copied returns a plat that shares no memory.
func copied(p api.Plat) api.Plat {
	return api.Plat{Parcels: slices.Clone(p.Parcels), Rows: slices.Clone(p.Rows), Cols: slices.Clone(p.Cols)}
}

// allowed is what the adjusted area of a parcel can be, by its Area and Off alone.
func allowed(p api.Parcel) api.Span { return span(max(0, p.Area-p.Off), p.Area+p.Off) }

func isIn(n int, s api.Span) bool { return n >= s.Low && n <= s.High }

func distance(a, b int) int { return max(a-b, b-a) }

// fills returns whether areas fill the strips, and are allowed, straight from the definition.
func fills(p api.Plat, areas []int) bool {
	for i, x := range p.Parcels {
		if !isIn(areas[i], allowed(x)) {
			return false
		}
	}
	for row, left := range p.Rows {
		for i, x := range p.Parcels {
			if x.Row == row {
				left -= areas[i]
			}
		}
		if left != 0 {
			return false
		}
	}
	for col, left := range p.Cols {
		for i, x := range p.Parcels {
			if x.Col == col {
				left -= areas[i]
			}
		}
		if left != 0 {
			return false
		}
	}
	return true
}

// total, most and count are the sum of the changes of areas, the greatest one, and how many there are.
func total(p api.Plat, areas []int) int {
	sum := 0
	for i, x := range p.Parcels {
		sum += distance(areas[i], x.Area)
	}
	return sum
}

func most(p api.Plat, areas []int) int {
	greatest := 0
	for i, x := range p.Parcels {
		greatest = max(greatest, distance(areas[i], x.Area))
	}
	return greatest
}

func count(p api.Plat, areas []int) int {
	changed := 0
	for i, x := range p.Parcels {
		if areas[i] != x.Area {
			changed++
		}
	}
	return changed
}

// measured returns the areas that were measured.
func measured(p api.Plat) []int {
	var l []int
	for _, x := range p.Parcels {
		l = append(l, x.Area)
	}
	return l
}

// proves returns whether rows and columns, both ascending, are a chain that proves that there is no adjustment, straight from the definition.
func proves(p api.Plat, rows, cols []int) bool {
	if len(rows)+len(cols) == 0 || !areSome(rows, len(p.Rows)) || !areSome(cols, len(p.Cols)) {
		return false
	}
	surplus := 0
	for _, row := range rows {
		surplus += p.Rows[row]
	}
	for _, col := range cols {
		surplus -= p.Cols[col]
	}
	var given, taken api.Span
	for _, x := range p.Parcels {
		inRow, inCol, can := slices.Contains(rows, x.Row), slices.Contains(cols, x.Col), allowed(x)
		if inRow && !inCol {
			given.Low += can.Low
			given.High += can.High
		}
		if inCol && !inRow {
			taken.Low += can.Low
			taken.High += can.High
		}
	}
	return surplus > given.High-taken.Low || surplus < given.Low-taken.High
}

// areSome returns whether numbers are ascending, without equal ones, and less than a limit.
func areSome(l []int, limit int) bool {
	for i, n := range l {
		if n < 0 || n >= limit || i > 0 && n <= l[i-1] {
			return false
		}
	}
	return true
}

// known is what is to be known of a plat.
type known struct {
	many, least, worst, few int
	ranges                  []api.Span
}

func (k known) error() api.Errno {
	if k.many == 0 {
		return api.ErrNone
	}
	return api.OK
}

func (k known) fixed() []int {
	var l []int
	for i, s := range k.ranges {
		if s.Low == s.High {
			l = append(l, i)
		}
	}
	return l
}

// adjustments returns all adjustments of a plat, each list of areas being tried.
func adjustments(p api.Plat) [][]int {
	var all [][]int
	areas := make([]int, len(p.Parcels))
	var try func(i int)
	try = func(i int) {
		if i == len(areas) {
			if fills(p, areas) {
				all = append(all, slices.Clone(areas))
			}
			return
		}
		for can := allowed(p.Parcels[i]); can.Low <= can.High; can.Low++ {
			areas[i] = can.Low
			try(i + 1)
		}
	}
	try(0)
	return all
}

// tried works out what is known by trying all lists of areas.
func tried(p api.Plat) known {
	k := known{least: math.MaxInt, worst: math.MaxInt, few: math.MaxInt}
	for range p.Parcels {
		k.ranges = append(k.ranges, span(math.MaxInt, math.MinInt))
	}
	for _, areas := range adjustments(p) {
		k.many++
		k.least = min(k.least, total(p, areas))
		k.worst = min(k.worst, most(p, areas))
		k.few = min(k.few, count(p, areas))
		for i, area := range areas {
			k.ranges[i] = span(min(k.ranges[i].Low, area), max(k.ranges[i].High, area))
		}
	}
	if k.many == 0 {
		return known{}
	}
	return k
}

// numbers is a fixed sequence of numbers that follow no short rule.
type numbers struct{ state uint64 }

// from returns the next number, from low to high.
func (n *numbers) from(low, high int) int {
	n.state = n.state*6364136223846793005 + 1442695040888963407
	return low + int((n.state>>33)%uint64(high-low+1))
}

// order returns the numbers from 0 to less than a limit, in any order.
func (n *numbers) order(limit int) []int {
	var l []int
	for i := range limit {
		l = slices.Insert(l, n.from(0, i), i)
	}
	return l
}

// plat returns a valid one with so many parcels, and up to so many strips. Most have an adjustment: their strips are what some areas fill. Where these are at an end of what is allowed, or strips are a little off, there are few or none.
func (n *numbers) plat(parcels, strips, area, off int) api.Plat {
	p := api.Plat{Rows: make([]int, max(n.from(0, strips), n.from(0, strips))), Cols: make([]int, max(n.from(0, strips), n.from(0, strips)))}
	ends := n.from(0, 2)
	for range parcels {
		x := parcel(n.from(-1, len(p.Rows)-1), n.from(-1, len(p.Cols)-1), n.from(0, area), n.from(0, off))
		can := allowed(x)
		now := n.from(can.Low, can.High)
		if n.from(0, 2) < ends {
			now = [...]int{can.Low, can.High}[n.from(0, 1)]
		}
		if x.Row >= 0 {
			p.Rows[x.Row] += now
		}
		if x.Col >= 0 {
			p.Cols[x.Col] += now
		}
		p.Parcels = append(p.Parcels, x)
	}
	if n.from(0, 3) == 0 {
		for _, strip := range [][]int{p.Rows, p.Cols} {
			if len(strip) > 0 {
				i := n.from(0, len(strip)-1)
				strip[i] = max(0, strip[i]+n.from(-2, 2))
			}
		}
	}
	return p
}

// small calls a test with plats whose lists of areas can all be tried.
func small(state uint64, times int, try func(n *numbers, p api.Plat)) {
	n := numbers{state: state}
	for range times {
		strips := n.from(1, 3)
		if n.from(0, 1) == 0 {
			try(&n, n.plat(n.from(0, 4), strips, 6, 2))
		} else {
			try(&n, n.plat(n.from(0, 6), strips, 3, 1))
		}
	}
}

// large calls a test with plats of all sizes.
func large(state uint64, times int, try func(n *numbers, p api.Plat)) {
	n := numbers{state: state}
	for range times {
		strips := n.from(1, api.MaxStrips)
		off := [...]int{1, 5, 20, api.MaxOff}[n.from(0, 3)]
		try(&n, n.plat(max(n.from(0, api.MaxParcels), n.from(0, api.MaxParcels)), strips, [...]int{30, api.MaxParcel}[n.from(0, 1)], off))
	}
}

// wide are numbers at the ends of what an int and a limit can be.
func wide() []int {
	return []int{math.MinInt, math.MinInt + 1, -100, -99, -2, -1, 0, 1, 2, 3, 4, 5, 98, 99, 100, 998, 999, 1000, 9998, 9999, 10000, math.MaxInt - 1, math.MaxInt}
}

// badPlats are plats that are not valid, each for one reason.
func badPlats() map[string]api.Plat {
	bad := map[string]api.Plat{}
	for name, change := range map[string]func(p *api.Plat){
		"nine parcels":             func(p *api.Plat) { p.Parcels = slices.Repeat([]api.Parcel{parcel(0, 0, 1, 1)}, 9) },
		"nine free parcels":        func(p *api.Plat) { p.Parcels = slices.Repeat([]api.Parcel{parcel(-1, -1, 0, 0)}, 9) },
		"five rows":                func(p *api.Plat) { p.Rows = []int{31, 46, 0, 0, 0} },
		"five columns":             func(p *api.Plat) { p.Cols = []int{27, 50, 0, 0, 0} },
		"a row beyond":             func(p *api.Plat) { p.Parcels[3].Row = 2 },
		"a row below -1":           func(p *api.Plat) { p.Parcels[0].Row = -2 },
		"a row far beyond":         func(p *api.Plat) { p.Parcels[1].Row = math.MaxInt },
		"a row far below":          func(p *api.Plat) { p.Parcels[1].Row = math.MinInt },
		"no row for a parcel":      func(p *api.Plat) { p.Rows = nil },
		"a column beyond":          func(p *api.Plat) { p.Parcels[3].Col = 2 },
		"a column below -1":        func(p *api.Plat) { p.Parcels[0].Col = -2 },
		"a column far beyond":      func(p *api.Plat) { p.Parcels[1].Col = math.MaxInt },
		"a column far below":       func(p *api.Plat) { p.Parcels[1].Col = math.MinInt },
		"no column for a parcel":   func(p *api.Plat) { p.Cols = []int{} },
		"an area below 0":          func(p *api.Plat) { p.Parcels[2].Area = -1 },
		"an area of 1000":          func(p *api.Plat) { p.Parcels[3].Area = 1000 },
		"an area far below":        func(p *api.Plat) { p.Parcels[3].Area = math.MinInt },
		"an area far beyond":       func(p *api.Plat) { p.Parcels[3].Area = math.MaxInt },
		"an Off below 0":           func(p *api.Plat) { p.Parcels[1].Off = -1 },
		"an Off of 100":            func(p *api.Plat) { p.Parcels[0].Off = 100 },
		"an Off far below":         func(p *api.Plat) { p.Parcels[0].Off = math.MinInt },
		"an Off far beyond":        func(p *api.Plat) { p.Parcels[0].Off = math.MaxInt },
		"a row's area below 0":     func(p *api.Plat) { p.Rows[1] = -1 },
		"a row's area of 10000":    func(p *api.Plat) { p.Rows[0] = 10000 },
		"a row's area far below":   func(p *api.Plat) { p.Rows[0] = math.MinInt },
		"a column's area below 0":  func(p *api.Plat) { p.Cols[0] = -1 },
		"a column's area of 10000": func(p *api.Plat) { p.Cols[1] = 10000 },
		"a column far too great":   func(p *api.Plat) { p.Cols[1] = math.MaxInt },
	} {
		p := platP()
		change(&p)
		bad[name] = p
	}
	return bad
}

func sameList(t *testing.T, call string, got []int, e api.Errno, want []int, wantE api.Errno) {
	t.Helper()
	if !slices.Equal(got, want) || e != wantE {
		t.Errorf("%s = %v, %d; want %v, %d", call, got, e, want, wantE)
	}
}

func sameInt(t *testing.T, call string, got int, e api.Errno, want int, wantE api.Errno) {
	t.Helper()
	if got != want || e != wantE {
		t.Errorf("%s = %d, %d; want %d, %d", call, got, e, want, wantE)
	}
}

func sameSpan(t *testing.T, call string, got api.Span, e api.Errno, want api.Span, wantE api.Errno) {
	t.Helper()
	if got != want || e != wantE {
		t.Errorf("%s = %v, %d; want %v, %d", call, got, e, want, wantE)
	}
}
