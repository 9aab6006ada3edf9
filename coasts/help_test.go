package coasts_test

import (
	"math"
	"slices"
	"testing"

	"knurl/api"
	"knurl/coasts"
)

func span(low, high int) api.Span { return api.Span{Low: low, High: high} }

func point(x, y int) api.Point { return api.Point{X: x, Y: y} }

func within(n, low, high int) bool { return low <= n && n <= high }

func report(divider, from, to, steps int) api.Report {
	return api.Report{Divider: divider, From: from, To: to, Steps: steps}
}

// coastK is K of the chapter's examples.
func coastK() api.Coast {
	return api.Coast{
		Bends:    []api.Point{point(0, 0), point(3, 4), point(6, 0), point(9, 4), point(12, 0)},
		Dividers: []api.Span{span(5, 7), span(10, 13)},
		Reports:  []api.Report{report(0, 0, 4, 4), report(0, 0, 4, 2), report(1, 0, 4, 2)},
	}
}

// coastN is one without a truth: two reports contradict each other.
func coastN() api.Coast {
	c := coastK()
	c.Reports[1] = report(0, 0, 2, 3)
	return c
}

// coastB is one with the bends alone.
func coastB() api.Coast {
	return api.Coast{Bends: coastK().Bends}
}

// widest is a coast with the greatest numbers, whose reports are right with the widest openings alone.
func widest() api.Coast {
	c := api.Coast{Dividers: slices.Repeat([]api.Span{span(1, api.MaxOpening)}, api.MaxDividers), Wrong: api.MaxReports}
	for i := range api.MaxBends {
		c.Bends = append(c.Bends, point(api.MaxCoord-60*(i/4), -api.MaxCoord+60*(i%4)))
	}
	for i := range api.MaxReports {
		c.Reports = append(c.Reports, report(i%api.MaxDividers, 0, 3, 3))
	}
	return c
}

// copied returns a coast that shares no memory.
func copied(c api.Coast) api.Coast {
	c.Bends, c.Dividers, c.Reports = slices.Clone(c.Bends), slices.Clone(c.Dividers), slices.Clone(c.Reports)
	return c
}

// back returns the coast as it is walked from the other end.
func back(c api.Coast) api.Coast {
	c = copied(c)
	slices.Reverse(c.Bends)
	last := len(c.Bends) - 1
	for i, r := range c.Reports {
		c.Reports[i].From, c.Reports[i].To = last-r.To, last-r.From
	}
	return c
}

// needed returns the least opening that reaches from one point to another one, counted up.
func needed(a, b api.Point) int {
	square := (a.X-b.X)*(a.X-b.X) + (a.Y-b.Y)*(a.Y-b.Y)
	n := 0
	for n*n < square {
		n++
	}
	return n
}

// isWalk returns whether a list of bends is a walk, straight from the definition.
func isWalk(c api.Coast, opening, from, to int, walk []int) bool {
	if len(walk) == 0 || walk[0] != from || walk[len(walk)-1] != to {
		return false
	}
	for i, bend := range walk[1:] {
		if before := walk[i]; bend <= before || bend >= len(c.Bends) || needed(c.Bends[before], c.Bends[bend]) > opening {
			return false
		}
	}
	return true
}

// tried returns all numbers of steps of walks: each set of the bends between is tried.
func tried(c api.Coast, opening, from, to int) []int {
	var l []int
	for set := range 1 << (to - from - 1) {
		walk := []int{from}
		for bend := from + 1; bend < to; bend++ {
			if set>>(bend-from-1)&1 == 1 {
				walk = append(walk, bend)
			}
		}
		if isWalk(c, opening, from, to, append(walk, to)) {
			l = append(l, len(walk))
		}
	}
	slices.Sort(l)
	return slices.Compact(l)
}

// layered returns the same: the bends from which the last one is reached with so many steps are found backwards, one more step after the other.
func layered(c api.Coast, opening, from, to int) []int {
	var l []int
	reached := map[int]bool{to: true}
	for n := 0; len(reached) > 0; n++ {
		if reached[from] {
			l = append(l, n)
		}
		before := map[int]bool{}
		for bend := range reached {
			for other := from; other < bend; other++ {
				if needed(c.Bends[other], c.Bends[bend]) <= opening {
					before[other] = true
				}
			}
		}
		reached = before
	}
	return l
}

// ways tells all numbers of steps of walks; tried and layered are such.
type ways func(c api.Coast, opening, from, to int) []int

// length is that of the whole coast, 0 if there is none.
func (w ways) length(c api.Coast, opening int) int {
	if l := w(c, opening, 0, len(c.Bends)-1); len(l) > 0 {
		return l[0] * opening
	}
	return 0
}

// known is what all truths of a coast say.
type known struct {
	many, fewest int
	openings     [api.MaxDividers][api.MaxOpening + 1]bool
	right        [api.MaxReports]bool
	greater, not [api.MaxDividers][api.MaxDividers]bool
}

// each calls a function with each list of openings of spans.
func each(spans []api.Span, try func(openings []int), openings ...int) {
	n := len(openings)
	if n == len(spans) {
		try(openings)
		return
	}
	openings = append(openings, 0)
	for openings[n] = spans[n].Low; openings[n] <= spans[n].High; openings[n]++ {
		each(spans, try, openings...)
	}
}

// learn tries each list of openings, all reports with each of them.
func learn(c api.Coast, w ways) known {
	var right [api.MaxReports][api.MaxOpening + 1]bool
	var lengths [api.MaxOpening + 1]int
	for opening := 1; opening <= api.MaxOpening; opening++ {
		lengths[opening] = w.length(c, opening)
		for i, r := range c.Reports {
			right[i][opening] = slices.Contains(w(c, opening, r.From, r.To), r.Steps)
		}
	}
	k := known{fewest: math.MaxInt}
	each(c.Dividers, func(openings []int) {
		wrong := 0
		for i, r := range c.Reports {
			if !right[i][openings[r.Divider]] {
				wrong++
			}
		}
		k.fewest = min(k.fewest, wrong)
		if wrong > c.Wrong {
			return
		}
		k.many++
		for i, r := range c.Reports {
			k.right[i] = k.right[i] || right[i][openings[r.Divider]]
		}
		for a, opening := range openings {
			k.openings[a][opening] = true
			for b, other := range openings {
				x, y := lengths[opening], lengths[other]
				if x > 0 && y > 0 && x > y {
					k.greater[a][b] = true
				} else {
					k.not[a][b] = true
				}
			}
		}
	})
	return k
}

// error is OK if there is a truth.
func (k known) error() api.Errno {
	if k.many == 0 {
		return api.ErrNone
	}
	return api.OK
}

// list returns all openings of a pair of dividers, ascending.
func (k known) list(divider int) []int {
	var l []int
	for opening, is := range k.openings[divider] {
		if is {
			l = append(l, opening)
		}
	}
	return l
}

// strange returns all reports of a coast that are right in no truth, if there is a truth.
func (k known) strange(c api.Coast) []int {
	var l []int
	for i := range c.Reports {
		if k.many > 0 && !k.right[i] {
			l = append(l, i)
		}
	}
	return l
}

// longer returns what all truths say of two pairs of dividers.
func (k known) longer(a, b int) int {
	switch {
	case k.many == 0:
		return 0
	case !k.not[a][b]:
		return api.Surely
	case !k.greater[a][b]:
		return api.Never
	}
	return api.Perhaps
}

// truths returns how many truths there are, also if there are none.
func truths(t *testing.T, c api.Coast) int {
	t.Helper()
	n, e := coasts.Many(c)
	if e != api.OK && e != api.ErrNone {
		t.Fatalf("Many of %+v: %d", c, e)
	}
	return n
}

func sameList(t *testing.T, call string, got []int, e api.Errno, want []int, wantE api.Errno) {
	t.Helper()
	if !slices.Equal(got, want) || e != wantE {
		t.Errorf("%s = %v, %d; want %v, %d", call, got, e, want, wantE)
	}
}

func same(t *testing.T, call string, got int, e api.Errno, want int, wantE api.Errno) {
	t.Helper()
	if got != want || e != wantE {
		t.Errorf("%s = %v, %d; want %v, %d", call, got, e, want, wantE)
	}
}

// numbers is a fixed sequence of numbers that follow no short rule.
type numbers struct{ state uint64 }

// from returns the next number, from low to high.
func (n *numbers) from(low, high int) int {
	n.state = n.state*6364136223846793005 + 1442695040888963407
	return low + int((n.state>>33)%uint64(high-low+1))
}

// bends returns as many as are asked for, of which each one is at most so far from the one before, in both directions. Sometimes each one is just so far, in one direction.
func (n *numbers) bends(count, far int) []api.Point {
	l := []api.Point{point(n.from(-api.MaxCoord, api.MaxCoord), n.from(-api.MaxCoord, api.MaxCoord))}
	square := n.from(0, 3) == 0
	for len(l) < count {
		before := l[len(l)-1]
		at := point(before.X+n.from(-far, far), before.Y+n.from(-far, far))
		if square {
			at = point(before.X+far*n.from(-1, 1), before.Y)
		}
		if square && at == before {
			at.Y += far * n.from(-1, 1)
		}
		if at != before && max(at.X, -at.X, at.Y, -at.Y) <= api.MaxCoord {
			l = append(l, at)
		}
	}
	return l
}

// stretch returns two bends of a coast, the first one being less.
func (n *numbers) stretch(c api.Coast) (int, int) {
	from := n.from(0, len(c.Bends)-2)
	return from, n.from(from+1, len(c.Bends)-1)
}

// opening returns one that often just reaches from one bend of a coast to another one.
func (n *numbers) opening(c api.Coast) int {
	from, to := n.stretch(c)
	if just := needed(c.Bends[from], c.Bends[to]); within(just, 1, api.MaxOpening) {
		return just
	}
	return n.from(1, api.MaxOpening)
}

// report returns one that is the most often right with an opening.
func (n *numbers) report(c api.Coast, divider, opening int) api.Report {
	from, to := n.stretch(c)
	l := layered(c, opening, from, to)
	if len(l) == 0 || n.from(0, 6) == 0 {
		l = []int{n.from(1, api.MaxBends)}
	}
	return report(divider, from, to, l[n.from(0, len(l)-1)])
}

// coast returns a valid one whose reports the most often agree with one opening of each pair of dividers; spans are at most so wide.
func (n *numbers) coast(bends, wide int) api.Coast {
	far := [...]int{1, 2, 5, 12, 30, 60, 120}[n.from(0, 6)]
	c := api.Coast{Bends: n.bends(n.from(2, bends), far), Wrong: max(0, n.from(-2, 4))}
	var real []int
	for range n.from(0, api.MaxDividers) {
		s := api.Span{Low: max(1, n.opening(c)-n.from(0, wide))}
		s.High = min(s.Low+n.from(0, wide), api.MaxOpening)
		c.Dividers = append(c.Dividers, s)
		real = append(real, n.from(s.Low, s.High))
	}
	if len(real) > 0 {
		for range n.from(0, api.MaxReports) {
			divider := n.from(0, len(real)-1)
			c.Reports = append(c.Reports, n.report(c, divider, real[divider]))
		}
	}
	return c
}

// small calls a test with coasts of which everything can be tried.
func small(state uint64, times int, try func(n *numbers, c api.Coast)) {
	n := numbers{state: state}
	for range times {
		try(&n, n.coast(7, 5))
	}
}

// large calls a test with coasts of all sizes.
func large(state uint64, times int, try func(n *numbers, c api.Coast)) {
	n := numbers{state: state}
	for range times {
		try(&n, n.coast(api.MaxBends, [...]int{3, 12, 25}[n.from(0, 2)]))
	}
}

// wide are numbers at the ends of what an int and a limit can be.
func wide() []int {
	return []int{math.MinInt, math.MinInt + 1, -201, -200, -2, -1, 0, 1, 2, 3, 4, 5, 8, 9, 11, 12, 13, 60, 61, 200, 201, math.MaxInt - 1, math.MaxInt}
}

// badCoasts are coasts for which ErrCoast is returned, each for one reason.
func badCoasts() map[string]api.Coast {
	bad := map[string]api.Coast{"nothing": {}, "Wrong without bends": {Wrong: 1}}
	for name, change := range map[string]func(c *api.Coast){
		"one bend":              func(c *api.Coast) { c.Bends, c.Reports = c.Bends[:1], nil },
		"13 bends":              func(c *api.Coast) { c.Bends = append(c.Bends, (&numbers{}).bends(8, 9)...) },
		"X 201":                 func(c *api.Coast) { c.Bends[0].X = 201 },
		"X -201":                func(c *api.Coast) { c.Bends[4].X = -201 },
		"Y 201":                 func(c *api.Coast) { c.Bends[4].Y = 201 },
		"Y -201":                func(c *api.Coast) { c.Bends[2].Y = -201 },
		"X least":               func(c *api.Coast) { c.Bends[1].X = math.MinInt },
		"Y greatest":            func(c *api.Coast) { c.Bends[3].Y = math.MaxInt },
		"equal first bends":     func(c *api.Coast) { c.Bends[1] = c.Bends[0] },
		"equal last bends":      func(c *api.Coast) { c.Bends[3] = c.Bends[4] },
		"five dividers":         func(c *api.Coast) { c.Dividers = slices.Repeat(c.Dividers[:1], 5); c.Reports = nil },
		"Low 0":                 func(c *api.Coast) { c.Dividers[0].Low = 0 },
		"Low least":             func(c *api.Coast) { c.Dividers[1].Low = math.MinInt },
		"High 61":               func(c *api.Coast) { c.Dividers[1].High = 61 },
		"High greatest":         func(c *api.Coast) { c.Dividers[0].High = math.MaxInt },
		"opening turned":        func(c *api.Coast) { c.Dividers[1] = span(11, 10) },
		"both 0":                func(c *api.Coast) { c.Dividers[1] = span(0, 0) },
		"both 61":               func(c *api.Coast) { c.Dividers[0] = span(61, 61) },
		"nine reports":          func(c *api.Coast) { c.Reports = slices.Repeat(c.Reports, 3) },
		"Divider -1":            func(c *api.Coast) { c.Reports[0].Divider = -1 },
		"Divider 2 of 2":        func(c *api.Coast) { c.Reports[2].Divider = 2 },
		"a report, no dividers": func(c *api.Coast) { c.Dividers = nil },
		"From -1":               func(c *api.Coast) { c.Reports[1].From = -1 },
		"From least":            func(c *api.Coast) { c.Reports[1].From = math.MinInt },
		"From is To":            func(c *api.Coast) { c.Reports[1].From = 4 },
		"both 0 0":              func(c *api.Coast) { c.Reports[1].To = 0 },
		"From above To":         func(c *api.Coast) { c.Reports[1].From, c.Reports[1].To = 3, 2 },
		"To 5 of 5":             func(c *api.Coast) { c.Reports[2].To = 5 },
		"To greatest":           func(c *api.Coast) { c.Reports[0].To = math.MaxInt },
		"Steps 0":               func(c *api.Coast) { c.Reports[0].Steps = 0 },
		"Steps 13":              func(c *api.Coast) { c.Reports[2].Steps = 13 },
		"Steps -1":              func(c *api.Coast) { c.Reports[1].Steps = -1 },
		"Wrong -1":              func(c *api.Coast) { c.Wrong = -1 },
		"Wrong 9":               func(c *api.Coast) { c.Wrong = 9 },
		"Wrong greatest":        func(c *api.Coast) { c.Wrong = math.MaxInt },
	} {
		c := coastK()
		change(&c)
		bad[name] = c
	}
	return bad
}
