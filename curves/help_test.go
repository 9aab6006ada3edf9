package curves_test

import (
	"math"
	"slices"
	"testing"

	"knurl/api"
)

func span(low, high int) api.Span { return api.Span{Low: low, High: high} }

func knot(at, low, high int) api.Knot { return api.Knot{At: at, Height: span(low, high)} }

// curve groups numbers to knots.
func curve(long, slope int, can api.Span, wrong int, n ...int) api.Curve {
	c := api.Curve{Long: long, Slope: slope, Range: can, Wrong: wrong}
	for i := 0; i < len(n); i += 3 {
		c.Knots = append(c.Knots, knot(n[i], n[i+1], n[i+2]))
	}
	return c
}

// curveC is C of the chapter's examples.
func curveC() api.Curve { return curve(4, 3, span(0, 10), 0, 0, 0, 0, 4, 6, 6) }

// curveD is one without a truth: one of its three knots is not right.
func curveD() api.Curve { return curve(4, 3, span(0, 10), 0, 0, 0, 0, 4, 6, 6, 1, 5, 9) }

// greatestCurve is one with the greatest numbers.
func greatestCurve() api.Curve {
	c := curve(api.MaxLong, api.MaxSlope, span(-api.MaxHeight, api.MaxHeight), api.MaxKnots)
	c.Knots = slices.Repeat([]api.Knot{knot(api.MaxLong, -api.MaxHeight, api.MaxHeight)}, api.MaxKnots)
	return c
}

// copied returns a curve that shares no memory.
func copied(c api.Curve) api.Curve {
	c.Knots = slices.Clone(c.Knots)
	return c
}

func isIn(n int, s api.Span) bool { return s.Low <= n && n <= s.High }

// isWithin returns whether a span is no wider than another one to any side.
func isWithin(s, other api.Span) bool { return s.Low >= other.Low && s.High <= other.High }

func distance(a, b int) int { return max(a-b, b-a) }

func united(a, b api.Span) api.Span { return span(min(a.Low, b.Low), max(a.High, b.High)) }

// empty is no span yet: united with another one it is this.
func empty() api.Span { return span(math.MaxInt, math.MinInt) }

// integral is that of heights from a to b, straight from the definition.
func integral(heights []int, a, b int) int {
	sum := 0
	for place := a; place < b; place++ {
		sum += heights[place] + heights[place+1]
	}
	return sum
}

// notRight returns how many knots are not right.
func notRight(c api.Curve, heights []int) int {
	n := 0
	for _, k := range c.Knots {
		if !isIn(heights[k.At], k.Height) {
			n++
		}
	}
	return n
}

const places = api.MaxLong + 1

// known is what is to be known of a curve: the spans of heights, leans, integrals, and of the greatest heights, from each place to each other one.
type known struct {
	any             bool
	fewest          int
	heights, leans  [places]api.Span
	integrals, tops [places][places]api.Span
	next            int
	noNext          api.Errno
}

func newKnown() known {
	k := known{fewest: math.MaxInt, noNext: api.ErrNone}
	for a := range places {
		k.heights[a], k.leans[a] = empty(), empty()
		for b := range places {
			k.integrals[a][b], k.tops[a][b] = empty(), empty()
		}
	}
	return k
}

func (k known) error() api.Errno {
	if !k.any {
		return api.ErrNone
	}
	return api.OK
}

// add counts truths whose heights are from some to others, these being truths themselves.
func (k *known) add(slope int, low, high []int) {
	k.any = true
	for a := range low {
		k.heights[a] = united(k.heights[a], span(low[a], high[a]))
		if a+1 < len(low) {
			k.leans[a] = united(k.leans[a], span(max(-slope, low[a+1]-high[a]), min(slope, high[a+1]-low[a])))
		}
		for b := a; b < len(low); b++ {
			k.integrals[a][b] = united(k.integrals[a][b], span(integral(low, a, b), integral(high, a, b)))
			k.tops[a][b] = united(k.tops[a][b], span(slices.Max(low[a:b+1]), slices.Max(high[a:b+1])))
		}
	}
}

// choose takes the first place with the least one of the greatest doubts of its heights, if it has several.
func (k *known) choose(wholes []map[int]api.Span) {
	least := math.MaxInt
	for place, whole := range wholes {
		worst := 0
		for _, s := range whole {
			worst = max(worst, s.High-s.Low)
		}
		if len(whole) > 1 && worst < least {
			least, k.next, k.noNext = worst, place, api.OK
		}
	}
}

// known returns what is known if there is a truth, and otherwise the least number of knots that are not right alone.
func (k known) orNothing() known {
	if k.any {
		return k
	}
	return known{fewest: k.fewest, noNext: api.ErrNone}
}

// lists calls a function with all lists of heights that are nowhere too steep.
func lists(c api.Curve, try func(heights []int)) {
	heights := make([]int, c.Long+1)
	var fill func(place int)
	fill = func(place int) {
		if place == len(heights) {
			try(heights)
			return
		}
		for h := c.Range.Low; h <= c.Range.High; h++ {
			if place == 0 || distance(h, heights[place-1]) <= c.Slope {
				heights[place] = h
				fill(place + 1)
			}
		}
	}
	fill(0)
}

// truths returns all truths of a curve, each list of heights being tried.
func truths(c api.Curve) [][]int {
	var all [][]int
	lists(c, func(heights []int) {
		if notRight(c, heights) <= c.Wrong {
			all = append(all, slices.Clone(heights))
		}
	})
	return all
}

// tried works out what is known by trying all lists of heights.
func tried(c api.Curve) known {
	k := newKnown()
	wholes := make([]map[int]api.Span, c.Long+1)
	for place := range wholes {
		wholes[place] = map[int]api.Span{}
	}
	lists(c, func(heights []int) {
		wrong := notRight(c, heights)
		k.fewest = min(k.fewest, wrong)
		if wrong > c.Wrong {
			return
		}
		k.add(c.Slope, heights, heights)
		all := integral(heights, 0, c.Long)
		for place, h := range heights {
			s, found := wholes[place][h]
			if !found {
				s = empty()
			}
			wholes[place][h] = united(s, span(all, all))
		}
	})
	k.choose(wholes)
	return k.orNothing()
}

// enveloped returns the least and the greatest heights of all that are within bounds and nowhere too steep, and whether there are any. All heights between both, at a place, are there as well: what is steeper nowhere can be continued.
func enveloped(slope int, bounds []api.Span) (low, high []int, ok bool) {
	ok = true
	for place := range bounds {
		can := bounds[place]
		for other, s := range bounds {
			far := slope * distance(place, other)
			can = span(max(can.Low, s.Low-far), min(can.High, s.High+far))
		}
		low, high = append(low, can.Low), append(high, can.High)
		ok = ok && can.Low <= can.High
	}
	return low, high, ok
}

// bounded returns the bounds of heights with knots that are right: those whose bits are 1.
func bounded(c api.Curve, right int) []api.Span {
	bounds := slices.Repeat([]api.Span{c.Range}, c.Long+1)
	for i, k := range c.Knots {
		if right>>i&1 == 1 {
			b := &bounds[k.At]
			*b = span(max(b.Low, k.Height.Low), min(b.High, k.Height.High))
		}
	}
	return bounds
}

// count returns how many bits are 1.
func count(bits int) int {
	n := 0
	for ; bits > 0; bits >>= 1 {
		n += bits & 1
	}
	return n
}

// reckoned works out what is known from the envelopes for all sets of knots that are right, as few as have to be.
func reckoned(c api.Curve) known {
	k := newKnown()
	wholes := make([]map[int]api.Span, c.Long+1)
	for place := range wholes {
		wholes[place] = map[int]api.Span{}
	}
	for right := range 1 << len(c.Knots) {
		bounds := bounded(c, right)
		low, high, ok := enveloped(c.Slope, bounds)
		if !ok {
			continue
		}
		k.fewest = min(k.fewest, len(c.Knots)-count(right))
		if count(right) != max(0, len(c.Knots)-c.Wrong) {
			continue
		}
		k.add(c.Slope, low, high)
		for place := range bounds {
			for h := low[place]; h <= high[place]; h++ {
				fixed := slices.Clone(bounds)
				fixed[place] = span(h, h)
				from, to, _ := enveloped(c.Slope, fixed)
				s, found := wholes[place][h]
				if !found {
					s = empty()
				}
				wholes[place][h] = united(s, span(integral(from, 0, c.Long), integral(to, 0, c.Long)))
			}
		}
	}
	k.choose(wholes)
	return k.orNothing()
}

// numbers is a fixed sequence of numbers that follow no short rule.
type numbers struct{ state uint64 }

// from returns the next number, from low to high.
func (n *numbers) from(low, high int) int {
	n.state = n.state*6364136223846793005 + 1442695040888963407
	return low + int((n.state>>33)%uint64(high-low+1))
}

// heights returns heights of a range that are nowhere too steep.
func (n *numbers) heights(long, slope int, can api.Span) []int {
	l := []int{n.from(can.Low, can.High)}
	for range long {
		last := l[len(l)-1]
		l = append(l, n.from(max(can.Low, last-slope), min(can.High, last+slope)))
	}
	return l
}

// knot returns a valid one. It is right for a height at its place, or else near to it.
func (n *numbers) knot(at, height, wide int) api.Knot {
	if n.from(0, 3) == 0 {
		height += n.from(-wide-2, wide+2)
	}
	low := height - n.from(0, wide)
	high := max(low, height+n.from(0, wide))
	return knot(at, max(-api.MaxHeight, min(api.MaxHeight, low)), max(-api.MaxHeight, min(api.MaxHeight, high)))
}

// curve returns a valid one, with so many places and knots, and heights of a range. Most have a truth.
func (n *numbers) curve(long, slope int, can api.Span, knots, wide int) api.Curve {
	c := curve(long, slope, can, 0)
	heights := n.heights(long, slope, can)
	for range knots {
		at := n.from(0, long)
		c.Knots = append(c.Knots, n.knot(at, heights[at], wide))
	}
	c.Wrong = n.from(0, 2)
	if n.from(0, 4) == 0 {
		c.Wrong = n.from(0, api.MaxKnots)
	}
	return c
}

// between returns heights of which there are so many, and one more.
func (n *numbers) between(wide int) api.Span {
	low := n.from(-api.MaxHeight, api.MaxHeight-wide)
	if n.from(0, 1) == 0 {
		low = n.from(max(-wide, -api.MaxHeight), min(0, api.MaxHeight-wide))
	}
	return span(low, low+wide)
}

// small calls a test with curves whose lists of heights can all be tried.
func small(state uint64, times int, try func(n *numbers, c api.Curve)) {
	n := numbers{state: state}
	for range times {
		long := n.from(1, 5)
		try(&n, n.curve(long, n.from(0, 3), n.between(n.from(0, [...]int{30, 14, 7, 4, 3}[long-1])), n.from(0, 5), n.from(0, 2)))
	}
}

// large calls a test with curves of all sizes, most of which have not the greatest numbers of heights.
func large(state uint64, times int, try func(n *numbers, c api.Curve)) {
	n := numbers{state: state}
	for range times {
		wide := n.from(0, [...]int{8, 20, 20, 40, 40, 200}[n.from(0, 5)])
		slope := n.from(0, [...]int{0, 2, 4, 8, api.MaxSlope}[n.from(0, 4)])
		try(&n, n.curve(n.from(1, api.MaxLong), slope, n.between(wide), n.from(0, api.MaxKnots), n.from(0, 1+wide/4)))
	}
}

// wide are numbers at the ends of what an int and a limit can be.
func wide() []int {
	return []int{math.MinInt, math.MinInt + 1, -102, -101, -100, -99, -2, -1, 0, 1, 2, 3, 4, 5, 8, 9, 12, 13, 20, 21, 99, 100, 101, 102, math.MaxInt - 1, math.MaxInt}
}

// badCurves are curves that are not valid, each for one reason.
func badCurves() map[string]api.Curve {
	bad := map[string]api.Curve{}
	for name, change := range map[string]func(c *api.Curve){
		"a Long of 0":              func(c *api.Curve) { c.Long, c.Knots = 0, c.Knots[:1] },
		"a Long below 0":           func(c *api.Curve) { c.Long, c.Knots = -1, nil },
		"a Long far below":         func(c *api.Curve) { c.Long, c.Knots = math.MinInt, nil },
		"a Long of 13":             func(c *api.Curve) { c.Long = 13 },
		"a Long far beyond":        func(c *api.Curve) { c.Long = math.MaxInt },
		"a Long before a knot":     func(c *api.Curve) { c.Long = 3 },
		"a Slope below 0":          func(c *api.Curve) { c.Slope = -1 },
		"a Slope of 21":            func(c *api.Curve) { c.Slope = 21 },
		"a Slope far below":        func(c *api.Curve) { c.Slope = math.MinInt },
		"a Slope far beyond":       func(c *api.Curve) { c.Slope = math.MaxInt },
		"a Range from -101":        func(c *api.Curve) { c.Range.Low = -101 },
		"a Range to 101":           func(c *api.Curve) { c.Range.High = 101 },
		"a Range of -101":          func(c *api.Curve) { c.Range = span(-101, -101) },
		"a Range of 101":           func(c *api.Curve) { c.Range = span(101, 101) },
		"a Range without numbers":  func(c *api.Curve) { c.Range = span(6, 5) },
		"a Range from far below":   func(c *api.Curve) { c.Range.Low = math.MinInt },
		"a Range to far beyond":    func(c *api.Curve) { c.Range.High = math.MaxInt },
		"a Range turned around":    func(c *api.Curve) { c.Range = span(math.MaxInt, math.MinInt) },
		"nine knots":               func(c *api.Curve) { c.Knots = slices.Repeat([]api.Knot{knot(0, 0, 0)}, 9) },
		"ten knots":                func(c *api.Curve) { c.Knots = slices.Repeat(c.Knots, 5) },
		"a knot before the curve":  func(c *api.Curve) { c.Knots[0].At = -1 },
		"a knot behind the curve":  func(c *api.Curve) { c.Knots[1].At = 5 },
		"a knot far before":        func(c *api.Curve) { c.Knots[1].At = math.MinInt },
		"a knot far behind":        func(c *api.Curve) { c.Knots[0].At = math.MaxInt },
		"a height from -101":       func(c *api.Curve) { c.Knots[0].Height.Low = -101 },
		"a height to 101":          func(c *api.Curve) { c.Knots[1].Height.High = 101 },
		"a height of -101":         func(c *api.Curve) { c.Knots[0].Height = span(-101, -101) },
		"a height of 101":          func(c *api.Curve) { c.Knots[0].Height = span(101, 101) },
		"a height without numbers": func(c *api.Curve) { c.Knots[1].Height = span(7, 6) },
		"a height from far below":  func(c *api.Curve) { c.Knots[1].Height.Low = math.MinInt },
		"a height to far beyond":   func(c *api.Curve) { c.Knots[1].Height.High = math.MaxInt },
		"a Wrong below 0":          func(c *api.Curve) { c.Wrong = -1 },
		"a Wrong of 9":             func(c *api.Curve) { c.Wrong = 9 },
		"a Wrong far below":        func(c *api.Curve) { c.Wrong = math.MinInt },
		"a Wrong far beyond":       func(c *api.Curve) { c.Wrong = math.MaxInt },
	} {
		c := curveC()
		change(&c)
		bad[name] = c
	}
	return bad
}

func sameList[T comparable](t *testing.T, call string, got []T, e api.Errno, want []T, wantE api.Errno) {
	t.Helper()
	if !slices.Equal(got, want) || e != wantE {
		t.Errorf("%s = %v, %d; want %v, %d", call, got, e, want, wantE)
	}
}

func same[T comparable](t *testing.T, call string, got T, e api.Errno, want T, wantE api.Errno) {
	t.Helper()
	if got != want || e != wantE {
		t.Errorf("%s = %v, %d; want %v, %d", call, got, e, want, wantE)
	}
}
