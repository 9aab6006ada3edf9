package sheets_test

import (
	"math"
	"math/big"
	"slices"
	"testing"

	"knurl/api"
	"knurl/corners"
)

func span(low, high int) api.Span { return api.Span{Low: low, High: high} }

func control(way, true, read, off int) api.Control {
	return api.Control{Way: way, True: true, Read: read, Off: off}
}

func point(x, y int) api.Point { return api.Point{X: x, Y: y} }

// points pairs numbers to points.
func points(n ...int) []api.Point {
	var l []api.Point
	for i := 0; i < len(n); i += 2 {
		l = append(l, point(n[i], n[i+1]))
	}
	return l
}

// sheetS, sheetT and fieldR are S, T and R of the chapter's examples.
func sheetS() api.Sheet {
	return api.Sheet{Across: span(980, 1000), Along: span(990, 1010), Controls: []api.Control{
		control(api.Across, 1000, 985, 2), control(api.Along, 500, 500, 1), control(api.Across, 2000, 1990, 20),
	}}
}

func sheetT() api.Sheet {
	s := sheetS()
	s.Controls = append(s.Controls, control(api.Along, 1000, 950, 5))
	return s
}

func fieldR() []api.Point { return points(0, 0, 20, 0, 20, 10, 0, 10) }

// flat is a sheet with just one factor of each direction, and no control.
func flat(across, along int) api.Sheet {
	return api.Sheet{Across: span(across, across), Along: span(along, along)}
}

// widest is a sheet of which nothing is known.
func widest() api.Sheet { return api.Sheet{Across: span(900, 1100), Along: span(900, 1100)} }

// whole is the polygon with the greatest numbers, comb one with as many corners as there can be.
func whole() []api.Point { return points(-200, -200, 200, -200, 200, 200, -200, 200) }

func comb() []api.Point {
	return points(-200, -200, 200, -200, 200, 200, 150, -199, 100, 200, 50, -199, 0, 200, -50, -199, -100, 200, -150, -199)
}

// pair is a factor across and one along.
type pair struct{ across, along int }

func (p pair) of(way int) int { return map[int]int{api.Across: p.across, api.Along: p.along}[way] }

// isRight compares what should have been read with the least and the greatest reading, as fractions.
func isRight(c api.Control, p pair) bool {
	read := big.NewRat(int64(c.True)*int64(p.of(c.Way)), 1000)
	return read.Cmp(big.NewRat(int64(c.Read-c.Off), 1)) >= 0 && read.Cmp(big.NewRat(int64(c.Read+c.Off), 1)) <= 0
}

// known is what is to be known of a sheet, worked out by trying everything.
type known struct {
	fewest  int
	truths  []pair
	strange []int
}

func tried(s api.Sheet) known {
	x := known{fewest: len(s.Controls)}
	once := make([]bool, len(s.Controls))
	for across := s.Across.Low; across <= s.Across.High; across++ {
		for along := s.Along.Low; along <= s.Along.High; along++ {
			p := pair{across, along}
			var right []int
			for i, c := range s.Controls {
				if isRight(c, p) {
					right = append(right, i)
				}
			}
			wrong := len(s.Controls) - len(right)
			x.fewest = min(x.fewest, wrong)
			if wrong > s.Wrong {
				continue
			}
			x.truths = append(x.truths, p)
			for _, i := range right {
				once[i] = true
			}
		}
	}
	if len(x.truths) > 0 {
		for i := range s.Controls {
			if !once[i] {
				x.strange = append(x.strange, i)
			}
		}
	}
	return x
}

// error is OK if there is a truth.
func (x known) error() api.Errno {
	if len(x.truths) == 0 {
		return api.ErrNone
	}
	return api.OK
}

func (x known) factors(way int) []int {
	var l []int
	for _, p := range x.truths {
		l = append(l, p.of(way))
	}
	slices.Sort(l)
	return slices.Compact(l)
}

// said counts in how many truths something is so; 0 if there is no truth.
func (x known) said(isSo func(pair) bool) int {
	count := 0
	for _, p := range x.truths {
		if isSo(p) {
			count++
		}
	}
	switch {
	case len(x.truths) == 0:
		return 0
	case count == len(x.truths):
		return api.Surely
	case count == 0:
		return api.Never
	}
	return api.Perhaps
}

// bounds rounds the least of some fractions down, and the greatest up.
func (x known) bounds(fraction func(pair) *big.Rat) api.Span {
	var least, greatest *big.Rat
	for _, p := range x.truths {
		f := fraction(p)
		if least == nil || f.Cmp(least) < 0 {
			least = f
		}
		if greatest == nil || f.Cmp(greatest) > 0 {
			greatest = f
		}
	}
	if least == nil {
		return api.Span{}
	}
	minus := new(big.Rat).Neg(greatest)
	return span(down(least), -down(minus))
}

// down rounds a fraction down.
func down(r *big.Rat) int {
	return int(new(big.Int).Div(r.Num(), r.Denom()).Int64())
}

// grown is a length now, as long as it truly is.
func grown(now, factor int) *big.Rat { return big.NewRat(int64(now)*1000, int64(factor)) }

// trueArea is the doubled area of a polygon of which each corner is where it truly is.
func trueArea(q []api.Point, p pair) *big.Rat {
	sum := new(big.Rat)
	for i, a := range q {
		b := q[(i+1)%len(q)]
		up := new(big.Rat).Mul(grown(a.X, p.across), grown(b.Y, p.along))
		down := new(big.Rat).Mul(grown(b.X, p.across), grown(a.Y, p.along))
		sum.Add(sum, up.Sub(up, down))
	}
	return sum.Abs(sum)
}

func trueSquare(a, b api.Point, p pair) *big.Rat {
	x, y := grown(b.X-a.X, p.across), grown(b.Y-a.Y, p.along)
	return x.Add(x.Mul(x, x), y.Mul(y, y))
}

// within returns whether a fraction is in a span.
func within(r *big.Rat, s api.Span) bool {
	return r.Cmp(big.NewRat(int64(s.Low), 1)) >= 0 && r.Cmp(big.NewRat(int64(s.High), 1)) <= 0
}

// near returns whether a fraction differs from a number by at most off.
func near(r *big.Rat, n, off int) bool { return within(r, span(n-off, n+off)) }

// numbers is a fixed sequence of numbers that follow no short rule.
type numbers struct{ state uint64 }

// from returns the next number, from low to high.
func (n *numbers) from(low, high int) int {
	n.state = n.state*6364136223846793005 + 1442695040888963407
	return low + int((n.state>>33)%uint64(high-low+1))
}

// span returns one from 900 to 1100 that is at most so wide.
func (n *numbers) span(most int) api.Span {
	low := n.from(900, 1100)
	return span(low, min(1100, low+n.from(0, most)))
}

// control returns one that is right for some factors.
func (n *numbers) control(p pair) api.Control {
	c := control(n.from(api.Across, api.Along), n.from(1, [...]int{30, 1000, api.MaxDistance}[n.from(0, 2)]), 0, 0)
	read := c.True * p.of(c.Way)
	c.Read = min((read+n.from(0, 999))/1000, api.MaxDistance)
	c.Off = (max(read-1000*c.Read, 1000*c.Read-read)+999)/1000 + max(0, n.from(-3, 3))
	return c
}

// sheet returns one with so narrow spans that everything can be tried; the most controls are right for the same factors.
func (n *numbers) sheet() api.Sheet {
	s := api.Sheet{Across: n.span(9), Along: n.span(9), Wrong: max(0, n.from(-3, 3))}
	if n.from(0, 3) == 0 {
		s.Along = s.Across
	}
	p := pair{n.from(s.Across.Low, s.Across.High), n.from(s.Along.Low, s.Along.High)}
	for range n.from(0, 6) {
		c := n.control(p)
		if n.from(0, 4) == 0 {
			c.Read = max(0, c.Read+n.from(-9, 0))
		}
		s.Controls = append(s.Controls, c)
	}
	return s
}

func (n *numbers) point(most int) api.Point { return point(n.from(-most, most), n.from(-most, most)) }

// polygon returns a valid polygon, in any sense. It grows from three points, corner by corner; in a small square it often goes straight on.
func (n *numbers) polygon() []api.Point {
	most := [...]int{2, 5, 20, api.MaxCoord}[n.from(0, 3)]
	for {
		p := []api.Point{n.point(most), n.point(most), n.point(most)}
		if corners.Check(p) != api.OK {
			continue
		}
		want := n.from(api.MinCorners, api.MaxCorners)
		for range 30 {
			if more := slices.Insert(slices.Clone(p), n.from(0, len(p)), n.point(most)); len(p) < want && corners.Check(more) == api.OK {
				p = more
			}
		}
		return p
	}
}

// each calls a test with sheets that are valid; most of them have a truth.
func each(state uint64, times int, try func(n *numbers, s api.Sheet)) {
	n := numbers{state: state}
	for range times {
		try(&n, n.sheet())
	}
}

// wide are numbers at the ends of what an int and a limit can be.
func wide() []int {
	return []int{math.MinInt, math.MinInt + 1, -201, -200, -1, 0, 1, 2, 3, 8, 9, 200, 201, 899, 900, 1000, 1100, 1101, 9999, 10000, 999999, 1000000, math.MaxInt - 1, math.MaxInt}
}

// badSheets are sheets that are not valid, each for one reason.
func badSheets() map[string]api.Sheet {
	bad := map[string]api.Sheet{"zero": {}}
	for name, change := range map[string]func(s *api.Sheet){
		"Across from 899":   func(s *api.Sheet) { s.Across = span(899, 1000) },
		"Across to 1101":    func(s *api.Sheet) { s.Across = span(980, 1101) },
		"Across turned":     func(s *api.Sheet) { s.Across = span(1000, 999) },
		"Across at 899":     func(s *api.Sheet) { s.Across = span(899, 899) },
		"Across at 1101":    func(s *api.Sheet) { s.Across = span(1101, 1101) },
		"Along from 899":    func(s *api.Sheet) { s.Along = span(899, 1000) },
		"Along to 1101":     func(s *api.Sheet) { s.Along = span(980, 1101) },
		"Along turned":      func(s *api.Sheet) { s.Along = span(1000, 999) },
		"Along without end": func(s *api.Sheet) { s.Along = span(math.MinInt, math.MaxInt) },
		"nine controls":     func(s *api.Sheet) { s.Controls = slices.Repeat(s.Controls[:1], 9) },
		"a zero control":    func(s *api.Sheet) { s.Controls = []api.Control{{}} },
		"Way 0":             func(s *api.Sheet) { s.Controls[0].Way = 0 },
		"Way 3":             func(s *api.Sheet) { s.Controls[0].Way = 3 },
		"Way -1":            func(s *api.Sheet) { s.Controls[0].Way = -1 },
		"True 0":            func(s *api.Sheet) { s.Controls[0].True = 0 },
		"True 10000":        func(s *api.Sheet) { s.Controls[0].True = 10000 },
		"True far too low":  func(s *api.Sheet) { s.Controls[0].True = math.MinInt },
		"Read -1":           func(s *api.Sheet) { s.Controls[0].Read = -1 },
		"Read 10000":        func(s *api.Sheet) { s.Controls[0].Read = 10000 },
		"Off -1":            func(s *api.Sheet) { s.Controls[0].Off = -1 },
		"Off 10000":         func(s *api.Sheet) { s.Controls[0].Off = 10000 },
		"the last control":  func(s *api.Sheet) { s.Controls[2].Way = 3 },
		"the eighth one":    func(s *api.Sheet) { s.Controls = append(slices.Repeat(s.Controls[:1], 7), api.Control{}) },
		"Wrong -1":          func(s *api.Sheet) { s.Wrong = -1 },
		"Wrong 9":           func(s *api.Sheet) { s.Wrong = 9 },
	} {
		s := sheetS()
		change(&s)
		bad[name] = s
	}
	return bad
}

// badPolygons are polygons that are not valid.
func badPolygons() map[string][]api.Point {
	return map[string][]api.Point{
		"nil":            nil,
		"two corners":    points(0, 0, 1, 1),
		"eleven corners": points(0, 0, 1, 0, 2, 0, 3, 0, 4, 0, 5, 0, 5, 1, 4, 1, 3, 1, 2, 1, 1, 1),
		"equal corners":  points(0, 0, 4, 0, 4, 0, 0, 3),
		"flat":           points(0, 0, 2, 0, 4, 0),
		"crossing":       points(0, 0, 2, 2, 2, 0, 0, 2),
		"beyond":         points(0, 0, 201, 0, 0, 1),
	}
}

// badPoints are points that no corner can be.
func badPoints() []api.Point {
	return points(201, 0, -201, 0, 0, 201, 0, -201, math.MaxInt, math.MinInt)
}

func sameList(t *testing.T, call string, got []int, e api.Errno, want []int, wantE api.Errno) {
	t.Helper()
	if !slices.Equal(got, want) || e != wantE {
		t.Errorf("%s = %v, %d; want %v, %d", call, got, e, want, wantE)
	}
}

func sameInt(t *testing.T, call string, got int, e api.Errno, want int, wantE api.Errno) {
	t.Helper()
	if got != want || e != wantE {
		t.Errorf("%s = %d, %d; want %d, %d", call, got, e, want, wantE)
	}
}

func sameSpan(t *testing.T, call string, got api.Span, e api.Errno, want api.Span, wantE api.Errno) {
	t.Helper()
	if got != want || e != wantE {
		t.Errorf("%s = %v, %d; want %v, %d", call, got, e, want, wantE)
	}
}
