package rods_test

import (
	"cmp"
	"math"
	"math/big"
	"reflect"
	"slices"
	"testing"

	"knurl/api"
	"knurl/rods"
)

func span(low, high int) api.Span { return api.Span{Low: low, High: high} }

func field(id, owner, class int) api.Field { return api.Field{Id: id, Owner: owner, Class: class} }

func measure(field, low, high int) api.Measure {
	return api.Measure{Field: field, Area: span(low, high)}
}

// bookB is B of the chapter's examples.
func bookB() api.RodBook {
	return api.RodBook{
		Units: []int{4, 40}, Rates: []int{1, 3}, Levy: 100,
		Fields:   []api.Field{field(1, 0, 0), field(2, 0, 1), field(3, 1, 0)},
		Measures: []api.Measure{measure(1, 10, 12), measure(1, 11, 14), measure(2, 5, 5), measure(3, 20, 20)},
	}
}

// bookN is one without a truth: two measures of the field 2 contradict each other.
func bookN() api.RodBook {
	b := bookB()
	b.Measures = append(b.Measures, measure(2, 6, 9))
	return b
}

// bookM is one with too many truths: nobody has measured the field 9.
func bookM() api.RodBook {
	b := bookB()
	b.Fields = append(b.Fields, field(9, 2, 1))
	b.Measures[0], b.Measures[1] = measure(1, 0, 2), measure(1, 0, 4)
	return b
}

// widest is a book with the greatest numbers, with MaxTruths truths.
func widest() api.RodBook {
	b := api.RodBook{Units: slices.Repeat([]int{api.MaxPer}, api.MaxUnits), Rates: slices.Repeat([]int{api.MaxRate}, api.MaxClasses), Levy: api.MaxLevy}
	for i, areas := range []int{5, 5, 5, 5, 8, 4} {
		id := api.MaxId - i
		b.Fields = append(b.Fields, field(id, api.MaxOwner, api.MaxClasses-1))
		b.Measures = append(b.Measures, measure(id, api.MaxAcre-areas+1, api.MaxAcre), measure(id, 0, api.MaxAcre))
	}
	return b
}

// exactly returns a book in which all areas are known; they are the weights, too, and the Ids are counted from 0.
func exactly(levy int, weights ...int) api.RodBook {
	b := api.RodBook{Units: []int{2}, Rates: []int{1}, Levy: levy}
	for id, weight := range weights {
		b.Fields = append(b.Fields, field(id, id, 0))
		b.Measures = append(b.Measures, measure(id, weight, weight))
	}
	return b
}

// copied returns a book that shares no memory.
func copied(b api.RodBook) api.RodBook {
	b.Units, b.Rates, b.Fields, b.Measures = slices.Clone(b.Units), slices.Clone(b.Rates), slices.Clone(b.Fields), slices.Clone(b.Measures)
	return b
}

// measured returns a copy of a book with one measure more.
func measured(b api.RodBook, m api.Measure) api.RodBook {
	b = copied(b)
	b.Measures = append(b.Measures, m)
	return b
}

// answer is what a function returns, each number of it, and its error.
type answer struct {
	numbers []int
	e       api.Errno
}

func one(n int, e api.Errno) answer       { return answer{[]int{n}, e} }
func list(l []int, e api.Errno) answer    { return answer{l, e} }
func ends(s api.Span, e api.Errno) answer { return answer{[]int{s.Low, s.High}, e} }

// query is what is asked of a book.
type query struct {
	area                int
	parts               []int
	field, owner, class int
}

// queryB is one for which all functions have an answer to B.
func queryB() query {
	return query{area: 1000, parts: []int{6, 1, 0}, field: 1, owner: 0, class: 1}
}

// asked returns what all functions answer.
func asked(b api.RodBook, q query) map[string]answer {
	return map[string]answer{
		"Check": {nil, rods.Check(b)},
		"Split": list(rods.Split(b, q.area)),
		"Join":  one(rods.Join(b, q.parts)),
		"Clash": list(rods.Clash(b)),
		"Areas": ends(rods.Areas(b, q.field)),
		"Many":  one(rods.Many(b)),
		"Share": ends(rods.Share(b, q.field)),
		"Owner": ends(rods.Owner(b, q.owner)),
		"Class": ends(rods.Class(b, q.class)),
		"Sure":  list(rods.Sure(b)),
		"Doubt": one(rods.Doubt(b)),
		"Next":  one(rods.Next(b)),
	}
}

// ofTruths returns what the functions answer that depend on the truths.
func ofTruths(b api.RodBook, q query) map[string]answer {
	m := asked(b, q)
	for _, call := range []string{"Check", "Split", "Join"} {
		delete(m, call)
	}
	return m
}

// way tells what each field of a book pays, with areas.
type way func(b api.RodBook, areas []int) []int

func weightOf(b api.RodBook, i, area int) int { return b.Rates[b.Fields[i].Class] * area }

// sumOf returns the sum of the weights of all fields.
func sumOf(b api.RodBook, areas []int) int {
	sum := 0
	for i, area := range areas {
		sum += weightOf(b, i, area)
	}
	return sum
}

// byRests sorts the fields by their rests, straight from the definition.
func byRests(b api.RodBook, areas []int) []int {
	paid, sum := make([]int, len(areas)), sumOf(b, areas)
	if sum == 0 {
		return paid
	}
	type claim struct{ i, rest int }
	left, claims := b.Levy, []claim{}
	for i, area := range areas {
		n := b.Levy * weightOf(b, i, area)
		paid[i] = n / sum
		left -= n / sum
		claims = append(claims, claim{i, n % sum})
	}
	slices.SortFunc(claims, func(x, y claim) int {
		return cmp.Or(cmp.Compare(y.rest, x.rest), cmp.Compare(b.Fields[x.i].Id, b.Fields[y.i].Id))
	})
	for _, c := range claims[:left] {
		paid[c.i]++
	}
	return paid
}

// byReturns lets each field pay its part rounded up, and then returns pennies to those that paid the most too much, of equal ones to the greater Ids first.
func byReturns(b api.RodBook, areas []int) []int {
	paid, sum := make([]int, len(areas)), sumOf(b, areas)
	if sum == 0 {
		return paid
	}
	all, tooMuch := 0, make([]*big.Rat, len(areas))
	for i, area := range areas {
		part := big.NewRat(int64(b.Levy*weightOf(b, i, area)), int64(sum))
		up := new(big.Int).Add(part.Num(), part.Denom())
		up.Sub(up, big.NewInt(1)).Quo(up, part.Denom())
		paid[i] = int(up.Int64())
		all += paid[i]
		tooMuch[i] = part.Sub(new(big.Rat).SetInt(up), part)
	}
	for ; all > b.Levy; all-- {
		first := 0
		for i := range areas {
			if c := tooMuch[i].Cmp(tooMuch[first]); c > 0 || c == 0 && b.Fields[i].Id > b.Fields[first].Id {
				first = i
			}
		}
		paid[first]--
		tooMuch[first] = new(big.Rat)
	}
	return paid
}

// known is what all truths of a book say: for each of them the areas, and what is paid.
type known struct {
	api.RodBook
	areas  [][]int
	many   *big.Int
	truths [][]int
	paid   [][]int
}

// learn tries each area for each field, and pays the levy in each truth in a way, unless there are too many.
func learn(b api.RodBook, pay way) known {
	k := known{RodBook: b, many: big.NewInt(1)}
	for _, f := range b.Fields {
		var areas []int
		for area := range api.MaxAcre + 1 {
			if !slices.ContainsFunc(b.Measures, func(m api.Measure) bool {
				return m.Field == f.Id && (area < m.Area.Low || area > m.Area.High)
			}) {
				areas = append(areas, area)
			}
		}
		k.areas = append(k.areas, areas)
		k.many.Mul(k.many, big.NewInt(int64(len(areas))))
	}
	if k.error() != api.OK {
		return k
	}
	k.truths = [][]int{nil}
	for _, areas := range k.areas {
		var longer [][]int
		for _, before := range k.truths {
			for _, area := range areas {
				longer = append(longer, append(slices.Clone(before), area))
			}
		}
		k.truths = longer
	}
	for _, areas := range k.truths {
		k.paid = append(k.paid, pay(b, areas))
	}
	return k
}

// error is that of what depends on all truths.
func (k known) error() api.Errno {
	switch {
	case k.many.Sign() == 0:
		return api.ErrNone
	case k.many.Cmp(big.NewInt(api.MaxTruths)) > 0:
		return api.ErrMany
	}
	return api.OK
}

// clash returns the Ids of all fields without an area.
func (k known) clash() []int {
	var l []int
	for i, f := range k.Fields {
		if len(k.areas[i]) == 0 {
			l = append(l, f.Id)
		}
	}
	slices.Sort(l)
	return l
}

// all returns the numbers of all truths.
func (k known) all() []int {
	var l []int
	for n := range k.truths {
		l = append(l, n)
	}
	return l
}

// pay returns the least and the greatest sum that some fields pay, in some truths.
func (k known) pay(is func(f api.Field) bool, truths []int) api.Span {
	var sums []int
	for _, n := range truths {
		sum := 0
		for i, pennies := range k.paid[n] {
			if is(k.Fields[i]) {
				sum += pennies
			}
		}
		sums = append(sums, sum)
	}
	return span(slices.Min(sums), slices.Max(sums))
}

// doubt returns that in some truths.
func (k known) doubt(truths []int) int {
	sum := 0
	for _, f := range k.Fields {
		s := k.pay(func(g api.Field) bool { return f == g }, truths)
		sum += s.High - s.Low
	}
	return sum
}

// sure returns all fields that pay the same in each truth.
func (k known) sure() []int {
	var l []int
	for _, f := range k.Fields {
		if s := k.pay(func(g api.Field) bool { return f == g }, k.all()); s.Low == s.High {
			l = append(l, f.Id)
		}
	}
	slices.Sort(l)
	return l
}

// worst returns the greatest doubt with one of the areas of a field, by its place.
func (k known) worst(i int) int {
	with := map[int][]int{}
	for n, areas := range k.truths {
		with[areas[i]] = append(with[areas[i]], n)
	}
	worst := 0
	for _, truths := range with {
		worst = max(worst, k.doubt(truths))
	}
	return worst
}

// next returns the Id that Next returns, and its error.
func (k known) next() (int, api.Errno) {
	type choice struct{ worst, id int }
	var l []choice
	for i, f := range k.Fields {
		if len(k.areas[i]) > 1 {
			l = append(l, choice{k.worst(i), f.Id})
		}
	}
	if len(l) == 0 {
		return 0, api.ErrNone
	}
	return slices.MinFunc(l, func(a, b choice) int {
		return cmp.Or(cmp.Compare(a.worst, b.worst), cmp.Compare(a.id, b.id))
	}).id, api.OK
}

// asked returns what all functions that depend on truths should answer. The field is one of the book.
func (k known) asked(q query) map[string]answer {
	m := map[string]answer{"Clash": {k.clash(), api.OK}, "Areas": {[]int{0, 0}, api.ErrNone}}
	if k.many.Sign() > 0 {
		l := k.areas[slices.IndexFunc(k.Fields, func(f api.Field) bool { return f.Id == q.field })]
		m["Areas"] = answer{[]int{l[0], l[len(l)-1]}, api.OK}
	}
	if e := k.error(); e != api.OK {
		m["Sure"] = answer{nil, e}
		for _, call := range []string{"Many", "Doubt", "Next"} {
			m[call] = one(0, e)
		}
		for _, call := range []string{"Share", "Owner", "Class"} {
			m[call] = ends(api.Span{}, e)
		}
		return m
	}
	m["Many"] = one(len(k.truths), api.OK)
	m["Share"] = ends(k.pay(func(f api.Field) bool { return f.Id == q.field }, k.all()), api.OK)
	m["Owner"] = ends(k.pay(func(f api.Field) bool { return f.Owner == q.owner }, k.all()), api.OK)
	m["Class"] = ends(k.pay(func(f api.Field) bool { return f.Class == q.class }, k.all()), api.OK)
	m["Sure"] = list(k.sure(), api.OK)
	m["Doubt"] = one(k.doubt(k.all()), api.OK)
	m["Next"] = one(k.next())
	return m
}

// sameAnswers fails the test unless two maps have the same answers; nil and empty are the same.
func sameAnswers(t *testing.T, name string, got, want map[string]answer) {
	t.Helper()
	for call, a := range want {
		if b := got[call]; b.e != a.e || !slices.Equal(a.numbers, b.numbers) {
			t.Errorf("%s: %s = %v, want %v", name, call, b, a)
		}
	}
	if len(got) != len(want) {
		t.Errorf("%s: %d answers, want %d", name, len(got), len(want))
	}
}

func sameList(t *testing.T, call string, got []int, e api.Errno, want []int, wantE api.Errno) {
	t.Helper()
	if !slices.Equal(got, want) || e != wantE {
		t.Errorf("%s = %v, %d; want %v, %d", call, got, e, want, wantE)
	}
}

func same[T comparable](t *testing.T, call string, got T, e api.Errno, want T, wantE api.Errno) {
	t.Helper()
	if got != want || e != wantE {
		t.Errorf("%s = %v, %d; want %v, %d", call, got, e, want, wantE)
	}
}

// numbers is a fixed sequence of numbers that follow no short rule.
type numbers struct{ state uint64 }

// from returns the next number, from low to high.
func (n *numbers) from(low, high int) int {
	n.state = n.state*6364136223846793005 + 1442695040888963407
	return low + int((n.state>>33)%uint64(high-low+1))
}

// pick returns one of some numbers.
func (n *numbers) pick(l ...int) int { return l[n.from(0, len(l)-1)] }

// shuffle changes the order of a list.
func shuffle[T any](n *numbers, l []T) {
	for i := range l {
		j := n.from(i, len(l)-1)
		l[i], l[j] = l[j], l[i]
	}
}

// around returns a span that has an area, at most so wide to both sides.
func (n *numbers) around(area, wide int) api.Span {
	return span(max(0, area-n.from(0, wide)), min(api.MaxAcre, area+n.from(0, wide)))
}

// fields returns as many fields as are asked for, in any order.
func (n *numbers) fields(count, classes int) []api.Field {
	ids := slices.Collect(func(yield func(int) bool) {
		for id := range n.pick(10, api.MaxId+1) {
			if !yield(id) {
				return
			}
		}
	})
	shuffle(n, ids)
	var l []api.Field
	for _, id := range ids[:count] {
		l = append(l, field(id, n.from(0, n.pick(2, api.MaxOwner)), n.from(0, classes-1)))
	}
	return l
}

// book returns a valid one with as many fields as are asked for, most often with a truth. All measures of a field have an area in common, most often, and are at most so wide around it. There are at most eleven, so that one more can be made.
func (n *numbers) book(count, wide int) api.RodBook {
	b := api.RodBook{Levy: n.pick(n.from(0, 1), n.from(1, 6), n.from(7, 100), n.from(101, api.MaxLevy), api.MaxLevy)}
	for range n.from(1, api.MaxUnits) {
		b.Units = append(b.Units, n.pick(2, n.from(2, 12), n.from(2, api.MaxPer), api.MaxPer))
	}
	most := n.pick(1, 3, api.MaxRate)
	for range n.pick(1, 2, n.from(1, api.MaxClasses)) {
		b.Rates = append(b.Rates, n.pick(0, 1, n.from(1, most), n.from(1, most)))
	}
	b.Fields = n.fields(count, len(b.Rates))
	great := n.pick(1, 2, 4, 12, 100, api.MaxAcre)
	for _, f := range b.Fields {
		area := n.from(0, great)
		if n.from(0, 5) == 0 {
			area = n.pick(0, great)
		}
		b.Measures = append(b.Measures, api.Measure{Field: f.Id, Area: n.around(area, wide)})
		for range n.pick(0, 0, 0, 1, 2) {
			if n.from(0, 12) == 0 {
				area = n.from(0, great)
			}
			b.Measures = append(b.Measures, api.Measure{Field: f.Id, Area: n.around(area, wide+2)})
		}
	}
	shuffle(n, b.Measures)
	b.Measures = b.Measures[:min(len(b.Measures), api.MaxMeasures-1)]
	return b
}

// small calls a test with books of which everything can be tried; all fields have been measured.
func small(state uint64, times int, try func(n *numbers, b api.RodBook)) {
	n := numbers{state: state}
	for done := 0; done < times; {
		b := n.book(n.from(n.from(0, 2), 5), n.pick(0, 1, 1, 2))
		if isMeasured(b) {
			try(&n, b)
			done++
		}
	}
}

// large calls a test with books of all sizes; sometimes a field has not been measured, or there are too many truths.
func large(state uint64, times int, try func(n *numbers, b api.RodBook)) {
	n := numbers{state: state}
	for range times {
		b := n.book(n.from(0, api.MaxFields), n.pick(1, 1, 2, 6))
		if n.from(0, 3) == 0 && len(b.Fields) < api.MaxFields {
			b.Fields = append(b.Fields, field(n.from(len(b.Fields)+20, api.MaxId), n.from(0, api.MaxOwner), 0))
		}
		if rods.Check(b) == api.OK {
			try(&n, b)
		}
	}
}

// isMeasured returns whether each field has been measured.
func isMeasured(b api.RodBook) bool {
	for _, f := range b.Fields {
		if !slices.ContainsFunc(b.Measures, func(m api.Measure) bool { return m.Field == f.Id }) {
			return false
		}
	}
	return true
}

// queries returns queries of all fields, owners and classes of a book, and at least one if it has fields.
func queries(b api.RodBook) []query {
	var l []query
	for i, f := range b.Fields {
		q := query{field: f.Id, owner: f.Owner, class: f.Class, parts: make([]int, len(b.Units)+1)}
		if i == 0 {
			// This owner and this class can be without fields.
			l = append(l, query{field: f.Id, owner: api.MaxOwner - f.Owner, class: len(b.Rates) - 1, parts: q.parts})
		}
		l = append(l, q)
	}
	return l
}

// many returns how many truths there are, also if there are none, and MaxTruths + 1 if there are more than MaxTruths.
func many(t *testing.T, b api.RodBook) int {
	t.Helper()
	n, e := rods.Many(b)
	switch e {
	case api.OK, api.ErrNone:
		return n
	case api.ErrMany:
		return api.MaxTruths + 1
	}
	t.Fatalf("Many of %+v: %d", b, e)
	return 0
}

// wide are numbers at the ends of what an int and a limit can be.
func wide() []int {
	return []int{math.MinInt, math.MinInt + 1, -2, -1, 0, 1, 2, 3, 4, 5, 6, 7, 9, 10, 39, 40, 99, 100, 101, 9998, 9999, 10000, 100000, 100001, 100000000, 100000001, math.MaxInt - 1, math.MaxInt}
}

// badBooks are books for which ErrBook is returned, each for one reason.
func badBooks() map[string]api.RodBook {
	bad := map[string]api.RodBook{"nothing": {}}
	for name, change := range map[string]func(b *api.RodBook){
		"no units":         func(b *api.RodBook) { b.Units = nil },
		"five units":       func(b *api.RodBook) { b.Units = []int{2, 2, 2, 2, 2} },
		"unit 1":           func(b *api.RodBook) { b.Units[0] = 1 },
		"unit 0":           func(b *api.RodBook) { b.Units[1] = 0 },
		"unit least":       func(b *api.RodBook) { b.Units[1] = math.MinInt },
		"unit 101":         func(b *api.RodBook) { b.Units[1] = 101 },
		"unit greatest":    func(b *api.RodBook) { b.Units[0] = math.MaxInt },
		"seven rates":      func(b *api.RodBook) { b.Rates = append(b.Rates, 1, 1, 1, 1, 1) },
		"no rates, fields": func(b *api.RodBook) { b.Rates = nil },
		"rate -1":          func(b *api.RodBook) { b.Rates[0] = -1 },
		"rate 101":         func(b *api.RodBook) { b.Rates[1] = 101 },
		"rate least":       func(b *api.RodBook) { b.Rates[0] = math.MinInt },
		"rate greatest":    func(b *api.RodBook) { b.Rates[0] = math.MaxInt },
		"rate of no class": func(b *api.RodBook) { b.Rates = append(b.Rates, 101) },
		"Levy -1":          func(b *api.RodBook) { b.Levy = -1 },
		"Levy least":       func(b *api.RodBook) { b.Levy = math.MinInt },
		"Levy 100001":      func(b *api.RodBook) { b.Levy = 100001 },
		"Levy greatest":    func(b *api.RodBook) { b.Levy = math.MaxInt },
		"seven fields": func(b *api.RodBook) {
			b.Fields = append(b.Fields, field(4, 0, 0), field(5, 0, 0), field(6, 0, 0), field(7, 0, 0))
		},
		"Id -1":              func(b *api.RodBook) { b.Fields = append(b.Fields, field(-1, 0, 0)) },
		"Id least":           func(b *api.RodBook) { b.Fields = append(b.Fields, field(math.MinInt, 0, 0)) },
		"Id 100":             func(b *api.RodBook) { b.Fields = append(b.Fields, field(100, 0, 0)) },
		"Id greatest":        func(b *api.RodBook) { b.Fields = append(b.Fields, field(math.MaxInt, 0, 0)) },
		"Id twice":           func(b *api.RodBook) { b.Fields = append(b.Fields, field(1, 3, 1)) },
		"equal fields":       func(b *api.RodBook) { b.Fields = append(b.Fields, b.Fields[2]) },
		"Owner -1":           func(b *api.RodBook) { b.Fields[0].Owner = -1 },
		"Owner 10":           func(b *api.RodBook) { b.Fields[2].Owner = 10 },
		"Owner greatest":     func(b *api.RodBook) { b.Fields[1].Owner = math.MaxInt },
		"Class -1":           func(b *api.RodBook) { b.Fields[0].Class = -1 },
		"Class 2 of 2":       func(b *api.RodBook) { b.Fields[2].Class = 2 },
		"Class greatest":     func(b *api.RodBook) { b.Fields[2].Class = math.MaxInt },
		"13 measures":        func(b *api.RodBook) { b.Measures = slices.Repeat(b.Measures[3:], 13) },
		"measure of no Id":   func(b *api.RodBook) { b.Measures[0].Field = 0 },
		"measure of 4":       func(b *api.RodBook) { b.Measures[3].Field = 4 },
		"measures, no field": func(b *api.RodBook) { b.Fields = nil },
		"Low -1":             func(b *api.RodBook) { b.Measures[0].Area.Low = -1 },
		"Low least":          func(b *api.RodBook) { b.Measures[1].Area.Low = math.MinInt },
		"High 10000":         func(b *api.RodBook) { b.Measures[1].Area.High = 10000 },
		"High greatest":      func(b *api.RodBook) { b.Measures[0].Area.High = math.MaxInt },
		"area turned":        func(b *api.RodBook) { b.Measures[2].Area = span(6, 5) },
		"both -1":            func(b *api.RodBook) { b.Measures[3].Area = span(-1, -1) },
		"both 10000":         func(b *api.RodBook) { b.Measures[3].Area = span(10000, 10000) },
	} {
		b := bookB()
		change(&b)
		bad[name] = b
	}
	return bad
}

// longer returns a book that shares no memory, with something behind the end of each list.
func longer(b api.RodBook) api.RodBook {
	b = copied(b)
	b.Units, b.Rates = append(b.Units, 77)[:len(b.Units)], append(b.Rates, 77)[:len(b.Rates)]
	b.Fields = append(b.Fields, field(7, 7, 7))[:len(b.Fields)]
	b.Measures = append(b.Measures, measure(7, 7, 7))[:len(b.Measures)]
	return b
}

// whole returns a copy of a book, with what is behind the end of each list.
func whole(b api.RodBook) api.RodBook {
	return copied(api.RodBook{
		Units: b.Units[:len(b.Units)+1], Rates: b.Rates[:len(b.Rates)+1], Levy: b.Levy,
		Fields: b.Fields[:len(b.Fields)+1], Measures: b.Measures[:len(b.Measures)+1],
	})
}

func equal(a, b any) bool { return reflect.DeepEqual(a, b) }
