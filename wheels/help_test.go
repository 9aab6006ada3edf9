package wheels_test

import (
	"math"
	"slices"
	"testing"

	"knurl/api"
	"knurl/wheels"
)

// wheelW and wheelV are W and V of the chapter's examples.
func wheelW() api.Wheel {
	return api.Wheel{Full: 100, Skew: 2, Guess: api.Span{Low: 40, High: 60}}
}

func wheelV() api.Wheel {
	w := wheelW()
	w.Read = 1
	return w
}

// widest is a wheel with the greatest numbers, but for Wrong.
func widest() api.Wheel {
	return api.Wheel{Full: api.MaxFull, Read: api.MaxRead, Slip: api.MaxSlip, Skew: api.MaxSkew, Circle: api.MaxCount, Guess: api.Span{High: api.MaxCount}}
}

func walk(sense, side, inside, start, end int) api.Walk {
	return api.Walk{Sense: sense, Side: side, Inside: inside, Start: start, End: end}
}

// walkA and walkB are A and B of the chapter's examples.
func walkA() api.Walk { return walk(1, 1, 0, 10, 62) }

func walkB() api.Walk { return walk(1, -1, 0, 62, 16) }

// isRight tries each slip and each error.
func isRight(w api.Wheel, k api.Walk, area, skew int) bool {
	for slip := 0; slip <= w.Slip; slip++ {
		for off := -2 * w.Read; off <= 2*w.Read; off++ {
			shown := k.Sense*(area-k.Inside*w.Circle-slip) + k.Side*skew + off
			if (k.End-k.Start-shown)%w.Full == 0 {
				return true
			}
		}
	}
	return false
}

// pair is an area and a skew.
type pair struct{ area, skew int }

// known is what is to be known of a wheel and its walks, worked out by trying everything.
type known struct {
	wheel        api.Wheel
	fewest       int
	truths       []pair
	areas, skews []int
	strange      []int
	tells        [][]int
	worst        map[[2]int]int
}

func tried(w api.Wheel, l []api.Walk) known {
	x := known{wheel: w, fewest: len(l), tells: make([][]int, len(l)), worst: map[[2]int]int{}}
	seldom := make([]bool, len(l))
	for area := w.Guess.Low; area <= w.Guess.High; area++ {
		for skew := -w.Skew; skew <= w.Skew; skew++ {
			var right []int
			for i, k := range l {
				if isRight(w, k, area, skew) {
					right = append(right, i)
					x.tells[i] = append(x.tells[i], area)
				}
			}
			wrong := len(l) - len(right)
			x.fewest = min(x.fewest, wrong)
			if wrong > w.Wrong {
				continue
			}
			x.truths = append(x.truths, pair{area, skew})
			x.areas = append(x.areas, area)
			x.skews = append(x.skews, skew)
			for _, i := range right {
				seldom[i] = true
			}
		}
	}
	x.areas, x.skews = once(x.areas), once(x.skews)
	for i := range l {
		x.tells[i] = once(x.tells[i])
		if !seldom[i] {
			x.strange = append(x.strange, i)
		}
	}
	for _, k := range kinds() {
		x.worst[k] = x.tryWorst(k[0], k[1])
	}
	return x
}

// tryWorst tries each difference of the readings of one more walk.
func (x known) tryWorst(sense, side int) int {
	worst := 0
	for difference := range x.wheel.Full {
		var areas []int
		for _, t := range x.truths {
			if isRight(x.wheel, walk(sense, side, 0, 0, difference), t.area, t.skew) {
				areas = append(areas, t.area)
			}
		}
		worst = max(worst, len(once(areas)))
	}
	return worst
}

func (x known) next() [2]int {
	best := kinds()[0]
	for _, k := range kinds() {
		if x.worst[k] < x.worst[best] {
			best = k
		}
	}
	return best
}

// error is OK if there is a truth.
func (x known) error() api.Errno {
	if len(x.truths) == 0 {
		return api.ErrNone
	}
	return api.OK
}

// once returns the numbers of a list, each once, ascending.
func once(l []int) []int {
	l = slices.Clone(l)
	slices.Sort(l)
	return slices.Compact(l)
}

func kinds() [][2]int { return [][2]int{{1, 1}, {1, -1}, {-1, 1}, {-1, -1}} }

// pairsOf returns all truths, as the functions tell them one area after the other.
func pairsOf(t *testing.T, w api.Wheel, l []api.Walk) []pair {
	t.Helper()
	var pairs []pair
	areas, e := wheels.Areas(w, l)
	if e != api.OK && e != api.ErrNone {
		t.Fatalf("Areas of %v, %v: %d", w, l, e)
	}
	for _, area := range areas {
		w.Guess = api.Span{Low: area, High: area}
		skews, e := wheels.Skews(w, l)
		if e != api.OK {
			t.Errorf("Skews of %v, %v: %d", w, l, e)
		}
		for _, skew := range skews {
			pairs = append(pairs, pair{area, skew})
		}
	}
	return pairs
}

func sameList(t *testing.T, call string, got []int, e api.Errno, want []int, wantE api.Errno) {
	t.Helper()
	if !slices.Equal(got, want) || e != wantE {
		t.Errorf("%s = %v, %d; want %v, %d", call, got, e, want, wantE)
	}
}

func sameInt(t *testing.T, call string, got int, e api.Errno, want int, wantE api.Errno) {
	t.Helper()
	if got != want || e != wantE {
		t.Errorf("%s = %d, %d; want %d, %d", call, got, e, want, wantE)
	}
}

func sameSpan(t *testing.T, call string, got api.Span, e api.Errno, want api.Span, wantE api.Errno) {
	t.Helper()
	if got != want || e != wantE {
		t.Errorf("%s = %v, %d; want %v, %d", call, got, e, want, wantE)
	}
}

// numbers is a fixed sequence of numbers that follow no short rule.
type numbers struct{ state uint64 }

// from returns the next number, from low to high.
func (n *numbers) from(low, high int) int {
	n.state = n.state*6364136223846793005 + 1442695040888963407
	return low + int((n.state>>33)%uint64(high-low+1))
}

func (n *numbers) sign() int { return 2*n.from(0, 1) - 1 }

// wheel returns a valid wheel with numbers so small that everything can be tried; Full is often less than what the other numbers add up to.
func (n *numbers) wheel() api.Wheel {
	low := n.from(0, 60)
	w := api.Wheel{
		Full: n.from(10, 40), Read: n.from(0, 2), Slip: n.from(0, 4), Skew: n.from(0, 4), Circle: n.from(0, 50),
		Guess: api.Span{Low: low, High: low + n.from(0, 20)}, Wrong: max(0, n.from(-3, 3)),
	}
	if n.from(0, 9) == 0 {
		w.Full = n.from(10, 12)
		w.Slip = n.from(8, 12)
	}
	return w
}

// right returns a walk that is right for an area and a skew.
func (n *numbers) right(w api.Wheel, area, skew int) api.Walk {
	k := walk(n.sign(), n.sign(), n.from(0, 1), n.from(0, w.Full-1), 0)
	shown := k.Sense*(area-k.Inside*w.Circle-n.from(0, w.Slip)) + k.Side*skew + n.from(-2*w.Read, 2*w.Read)
	k.End = ((k.Start+shown)%w.Full + w.Full) % w.Full
	return k
}

// walks returns walks of which the most are right for one area and one skew.
func (n *numbers) walks(w api.Wheel) []api.Walk {
	var l []api.Walk
	area, skew := n.from(w.Guess.Low, w.Guess.High), n.from(-w.Skew, w.Skew)
	for range n.from(0, 5) {
		k := n.right(w, area, skew)
		if n.from(0, 5) == 0 {
			k.End = n.from(0, w.Full-1)
		}
		l = append(l, k)
	}
	return l
}

// each calls a test with wheels and their walks.
func each(state uint64, times int, try func(n *numbers, w api.Wheel, l []api.Walk)) {
	n := numbers{state: state}
	for range times {
		w := n.wheel()
		try(&n, w, n.walks(w))
	}
}

// wide are numbers at the ends of what an int and a limit can be.
func wide() []int {
	return []int{math.MinInt, math.MinInt + 1, -10000, -2, -1, 0, 1, 2, 8, 9, 10, 20, 21, 99, 9999, 10000, 10001, math.MaxInt - 1, math.MaxInt}
}

// badWheels are wheels that are not valid, each for one reason.
func badWheels() map[string]api.Wheel {
	bad := map[string]api.Wheel{"zero": {}}
	for name, change := range map[string]func(w *api.Wheel){
		"Full 9":          func(w *api.Wheel) { w.Full = 9 },
		"Full 0":          func(w *api.Wheel) { w.Full = 0 },
		"Full -100":       func(w *api.Wheel) { w.Full = -100 },
		"Full 10001":      func(w *api.Wheel) { w.Full = 10001 },
		"Full least":      func(w *api.Wheel) { w.Full = math.MinInt },
		"Read -1":         func(w *api.Wheel) { w.Read = -1 },
		"Read 21":         func(w *api.Wheel) { w.Read = 21 },
		"Read greatest":   func(w *api.Wheel) { w.Read = math.MaxInt },
		"Slip -1":         func(w *api.Wheel) { w.Slip = -1 },
		"Slip 21":         func(w *api.Wheel) { w.Slip = 21 },
		"Skew -1":         func(w *api.Wheel) { w.Skew = -1 },
		"Skew 21":         func(w *api.Wheel) { w.Skew = 21 },
		"Circle -1":       func(w *api.Wheel) { w.Circle = -1 },
		"Circle 10000":    func(w *api.Wheel) { w.Circle = 10000 },
		"Guess from -1":   func(w *api.Wheel) { w.Guess.Low = -1 },
		"Guess to 10000":  func(w *api.Wheel) { w.Guess.High = 10000 },
		"Guess turned":    func(w *api.Wheel) { w.Guess = api.Span{Low: 51, High: 50} },
		"Guess both -1":   func(w *api.Wheel) { w.Guess = api.Span{Low: -1, High: -1} },
		"Guess at 10000":  func(w *api.Wheel) { w.Guess = api.Span{Low: 10000, High: 10000} },
		"Guess unlimited": func(w *api.Wheel) { w.Guess = api.Span{Low: math.MinInt, High: math.MaxInt} },
		"Wrong -1":        func(w *api.Wheel) { w.Wrong = -1 },
		"Wrong 9":         func(w *api.Wheel) { w.Wrong = 9 },
	} {
		w := wheelW()
		change(&w)
		bad[name] = w
	}
	return bad
}

// badWalks are lists of walks that are not valid for the wheel W, each for one reason.
func badWalks() map[string][]api.Walk {
	return map[string][]api.Walk{
		"nine":               slices.Repeat([]api.Walk{walkA()}, 9),
		"zero":               {{}},
		"the second one":     {walkA(), walk(1, 1, 2, 0, 0)},
		"the eighth one":     append(slices.Repeat([]api.Walk{walkA()}, 7), walk(1, 1, 0, 0, 100)),
		"Sense 0":            {walk(0, 1, 0, 10, 62)},
		"Sense 2":            {walk(2, 1, 0, 10, 62)},
		"Sense -2":           {walk(-2, 1, 0, 10, 62)},
		"Side 0":             {walk(1, 0, 0, 10, 62)},
		"Side 2":             {walk(1, 2, 0, 10, 62)},
		"Side -2":            {walk(1, -2, 0, 10, 62)},
		"Inside 2":           {walk(1, 1, 2, 10, 62)},
		"Inside -1":          {walk(1, 1, -1, 10, 62)},
		"Start 100":          {walk(1, 1, 0, 100, 62)},
		"Start -1":           {walk(1, 1, 0, -1, 62)},
		"End 100":            {walk(1, 1, 0, 10, 100)},
		"End -1":             {walk(1, 1, 0, 10, -1)},
		"both far too great": {walk(1, 1, 0, math.MaxInt, math.MinInt)},
	}
}
