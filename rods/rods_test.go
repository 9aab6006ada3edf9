package rods_test

import (
	"slices"
	"testing"

	"knurl/api"
	"knurl/rods"
)

// P11.1.
func TestCheck(t *testing.T) {
	good := map[string]api.RodBook{"B": bookB(), "no truth": bookN(), "too many truths": bookM(), "widest": widest()}
	for name, change := range map[string]func(b *api.RodBook){
		"one unit":           func(b *api.RodBook) { b.Units = []int{2} },
		"four units":         func(b *api.RodBook) { b.Units = []int{100, 2, 100, 2} },
		"six rates":          func(b *api.RodBook) { b.Rates = append(b.Rates, 0, 100, 0, 100) },
		"no fields":          func(b *api.RodBook) { b.Fields, b.Measures = nil, nil },
		"units alone":        func(b *api.RodBook) { b.Rates, b.Fields, b.Measures = nil, nil, nil },
		"no measures":        func(b *api.RodBook) { b.Measures = nil },
		"Levy 0":             func(b *api.RodBook) { b.Levy = 0 },
		"Levy 100000":        func(b *api.RodBook) { b.Levy = 100000 },
		"six fields":         func(b *api.RodBook) { b.Fields = append(b.Fields, field(0, 9, 0), field(99, 9, 1), field(50, 0, 0)) },
		"fields of one kind": func(b *api.RodBook) { b.Fields[1], b.Fields[2] = field(2, 0, 0), field(3, 0, 0) },
		"12 measures":        func(b *api.RodBook) { b.Measures = slices.Repeat(b.Measures[3:], 12) },
		"all areas":          func(b *api.RodBook) { b.Measures[0].Area = span(0, 9999) },
		"area 0":             func(b *api.RodBook) { b.Measures[2].Area = span(0, 0) },
		"area 9999":          func(b *api.RodBook) { b.Measures[3].Area = span(9999, 9999) },
	} {
		b := bookB()
		change(&b)
		good[name] = b
	}
	for name, b := range good {
		if e := rods.Check(b); e != api.OK {
			t.Errorf("Check of %s: %d", name, e)
		}
	}
	for name, b := range badBooks() {
		if e := rods.Check(b); e != api.ErrBook {
			t.Errorf("Check of %s: %d", name, e)
		}
	}
}

func TestExamples(t *testing.T) {
	b := bookB()
	for _, x := range []struct {
		area int
		want []int
	}{{1000, []int{6, 1, 0}}, {159, []int{0, 3, 39}}} {
		l, e := rods.Split(b, x.area)
		sameList(t, "Split of B", l, e, x.want, api.OK)
	}
	n, e := rods.Join(b, []int{6, 1, 0})
	same(t, "Join of B, 6 1 0", n, e, 1000, api.OK)
	s, e := rods.Areas(b, 1)
	same(t, "Areas of B, 1", s, e, span(11, 12), api.OK)
	n, e = rods.Many(b)
	same(t, "Many of B", n, e, 2, api.OK)
	for id, want := range map[int]api.Span{1: span(24, 25), 2: span(32, 33), 3: span(43, 43)} {
		s, e := rods.Share(b, id)
		same(t, "Share of B", s, e, want, api.OK)
	}
	for owner, want := range []api.Span{span(57, 57), span(43, 43)} {
		s, e := rods.Owner(b, owner)
		same(t, "Owner of B", s, e, want, api.OK)
	}
	for class, want := range []api.Span{span(67, 68), span(32, 33)} {
		s, e := rods.Class(b, class)
		same(t, "Class of B", s, e, want, api.OK)
	}
	l, e := rods.Sure(b)
	sameList(t, "Sure of B", l, e, []int{3}, api.OK)
	n, e = rods.Doubt(b)
	same(t, "Doubt of B", n, e, 2, api.OK)
	n, e = rods.Next(b)
	same(t, "Next of B", n, e, 1, api.OK)
	l, e = rods.Clash(bookN())
	sameList(t, "Clash of B with the measure 2: 6 to 9", l, e, []int{2}, api.OK)
}

// P11.2, P11.3.
func TestSplitAndJoin(t *testing.T) {
	b := bookB()
	for _, x := range []struct {
		units []int
		area  int
		want  []int
	}{
		{[]int{4, 40}, 0, []int{0, 0, 0}}, {[]int{4, 40}, 39, []int{0, 0, 39}}, {[]int{4, 40}, 40, []int{0, 1, 0}}, {[]int{4, 40}, 160, []int{1, 0, 0}},
		{[]int{4, 40}, 100000000, []int{625000, 0, 0}}, {[]int{4, 40}, 99999999, []int{624999, 3, 39}}, {[]int{40, 4}, 159, []int{0, 39, 3}}, {[]int{40, 4}, 161, []int{1, 0, 1}},
		{[]int{7}, 100, []int{14, 2}}, {[]int{2}, 100000000, []int{50000000, 0}}, {[]int{2, 3, 4, 5}, 119, []int{0, 1, 2, 3, 4}}, {[]int{2, 3, 4, 5}, 120, []int{1, 0, 0, 0, 0}},
		{[]int{2, 3, 4, 5}, 1234, []int{10, 0, 1, 2, 4}}, {[]int{100, 100, 100, 100}, 100000000, []int{1, 0, 0, 0, 0}}, {[]int{100, 100, 100, 100}, 99999999, []int{0, 99, 99, 99, 99}},
	} {
		b.Units = x.units
		l, e := rods.Split(b, x.area)
		sameList(t, "Split", l, e, x.want, api.OK)
		n, e := rods.Join(b, x.want)
		same(t, "Join", n, e, x.area, api.OK)
	}
}

// P11.3: what Split does not return is not joined.
func TestNotJoined(t *testing.T) {
	b := bookB()
	for _, x := range []struct {
		units, parts []int
	}{
		{[]int{4, 40}, nil}, {[]int{4, 40}, []int{}}, {[]int{4, 40}, []int{1}}, {[]int{4, 40}, []int{1, 1}}, {[]int{4, 40}, []int{0, 1, 1, 0}}, {[]int{4, 40}, []int{0, 0, 0, 0}},
		{[]int{4, 40}, []int{-1, 0, 0}}, {[]int{4, 40}, []int{0, -1, 0}}, {[]int{4, 40}, []int{0, 0, -1}}, {[]int{4, 40}, []int{1, -1, 0}}, {[]int{4, 40}, []int{1, 0, -1}}, {[]int{4, 40}, []int{0, 4, 0}}, {[]int{4, 40}, []int{0, 0, 40}},
		{[]int{4, 40}, []int{625000, 0, 1}}, {[]int{4, 40}, []int{625000, 1, 0}}, {[]int{4, 40}, []int{625001, 0, 0}}, {[]int{4, 40}, []int{100000000, 0, 0}}, {[]int{4, 40}, []int{100000001, 0, 0}},
		{[]int{100, 100, 100, 100}, []int{1, 0, 0, 0, 1}}, {[]int{100, 100, 100, 100}, []int{1, 1, 0, 0, 0}}, {[]int{2}, []int{50000000, 1}}, {[]int{2}, []int{50000000, 2}}, {[]int{2}, []int{1, 2}},
	} {
		b.Units = x.units
		n, e := rods.Join(b, x.parts)
		same(t, "Join", n, e, 0, api.ErrArg)
	}
	b.Units = []int{100, 100, 100, 100}
	for i := range 5 {
		for _, n := range wide() {
			parts := []int{0, 0, 0, 0, 0}
			parts[i] = n
			want, wantE := 0, api.ErrArg
			if n >= 0 && (i > 0 && n <= 99 || n <= 1) {
				want, wantE = n*[]int{100000000, 1000000, 10000, 100, 1}[i], api.OK
			}
			area, e := rods.Join(b, parts)
			same(t, "Join", area, e, want, wantE)
		}
	}
}

// P11.4: all fields that clash, by their Ids, whatever else there is.
func TestClash(t *testing.T) {
	for _, x := range []struct {
		measures []api.Measure
		want     []int
	}{
		{nil, nil}, {[]api.Measure{measure(2, 5, 6)}, nil}, {[]api.Measure{measure(3, 1, 2), measure(3, 3, 4)}, []int{3}}, {[]api.Measure{measure(3, 1, 3), measure(3, 3, 4)}, nil},
		{[]api.Measure{measure(3, 3, 4), measure(1, 7, 7), measure(3, 1, 2), measure(1, 8, 9)}, []int{1, 3}},
		{[]api.Measure{measure(3, 0, 5), measure(3, 4, 9), measure(3, 3, 3), measure(2, 0, 0), measure(1, 9998, 9998), measure(2, 1, 1), measure(1, 9999, 9999)}, []int{1, 2, 3}},
		{[]api.Measure{measure(1, 0, 5), measure(1, 5, 9), measure(1, 6, 6)}, []int{1}}, {[]api.Measure{measure(1, 0, 5), measure(2, 6, 9)}, nil},
	} {
		b := bookB()
		b.Fields = []api.Field{b.Fields[2], b.Fields[0], b.Fields[1]}
		b.Measures = x.measures
		l, e := rods.Clash(b)
		sameList(t, "Clash", l, e, x.want, api.OK)
	}
}

// P11.5, P11.6: a field that nobody has measured has all areas.
func TestAreasAndMany(t *testing.T) {
	b := bookB()
	for _, x := range []struct {
		measures []api.Measure
		want     [3]api.Span
		many     int
		e        api.Errno
	}{
		{nil, [3]api.Span{span(0, 9999), span(0, 9999), span(0, 9999)}, 0, api.ErrMany},
		{[]api.Measure{measure(1, 4, 4), measure(2, 0, 9)}, [3]api.Span{span(4, 4), span(0, 9), span(0, 9999)}, 0, api.ErrMany},
		{[]api.Measure{measure(1, 4, 4), measure(2, 8, 9)}, [3]api.Span{span(4, 4), span(8, 9), span(0, 9999)}, 20000, api.OK},
		{[]api.Measure{measure(1, 4, 4), measure(2, 7, 9)}, [3]api.Span{span(4, 4), span(7, 9), span(0, 9999)}, 0, api.ErrMany},
		{[]api.Measure{measure(3, 4, 9), measure(2, 9999, 9999), measure(3, 6, 12), measure(1, 0, 1), measure(3, 3, 8)}, [3]api.Span{span(0, 1), span(9999, 9999), span(6, 8)}, 6, api.OK},
		// These are 3 times 59 times 113 truths, 20001, and then 200 times 100 times 1, which is just 20000.
		{[]api.Measure{measure(1, 1, 3), measure(2, 1, 59), measure(3, 1, 113)}, [3]api.Span{span(1, 3), span(1, 59), span(1, 113)}, 0, api.ErrMany},
		{[]api.Measure{measure(1, 1, 200), measure(2, 1, 100), measure(3, 1, 1)}, [3]api.Span{span(1, 200), span(1, 100), span(1, 1)}, 20000, api.OK},
	} {
		b.Measures = x.measures
		for i, want := range x.want {
			s, e := rods.Areas(b, i+1)
			same(t, "Areas", s, e, want, api.OK)
		}
		n, e := rods.Many(b)
		same(t, "Many", n, e, x.many, x.e)
	}
}

// P11.7: how the levy is shared if all areas are known.
func TestShare(t *testing.T) {
	for _, x := range []struct {
		levy          int
		weights, want []int
	}{
		{100, []int{1, 1, 1}, []int{34, 33, 33}}, {101, []int{1, 1, 1}, []int{34, 34, 33}}, {102, []int{1, 1, 1}, []int{34, 34, 34}},
		{1, []int{1, 1}, []int{1, 0}}, {1, []int{1, 2}, []int{0, 1}}, {1, []int{2, 1}, []int{1, 0}}, {0, []int{5, 7}, []int{0, 0}}, {2, []int{0, 5, 0, 5}, []int{0, 1, 0, 1}}, {3, []int{0, 5, 0, 5}, []int{0, 2, 0, 1}},
		{100, []int{0, 0, 0}, []int{0, 0, 0}}, {100, []int{0, 1, 0}, []int{0, 100, 0}}, {5, []int{1, 1, 1, 1, 1, 1}, []int{1, 1, 1, 1, 1, 0}}, {10, []int{1, 2, 3, 4}, []int{1, 2, 3, 4}},
		{11, []int{1, 2, 3, 4}, []int{1, 2, 3, 5}}, {12, []int{1, 2, 3, 4}, []int{1, 2, 4, 5}}, {13, []int{1, 2, 3, 4}, []int{1, 3, 4, 5}}, {3, []int{1, 2, 3, 4}, []int{0, 1, 1, 1}},
		{100000, []int{9999, 9999, 9999, 9999, 9999, 9999}, []int{16667, 16667, 16667, 16667, 16666, 16666}}, {100000, []int{1, 9999}, []int{10, 99990}}, {4999, []int{1, 9999}, []int{0, 4999}}, {5001, []int{1, 9999}, []int{1, 5000}},
	} {
		b := exactly(x.levy, x.weights...)
		for id, want := range x.want {
			s, e := rods.Share(b, id)
			same(t, "Share", s, e, span(want, want), api.OK)
		}
	}
}

// P11.7: of equal rests the lesser Ids come first, and not the fields that come first; the greatest rests come first, and not the greatest parts.
func TestPenniesLeft(t *testing.T) {
	b := exactly(2, 1, 1, 1)
	slices.Reverse(b.Fields)
	for id, want := range []int{1, 1, 0} {
		s, e := rods.Share(b, id)
		same(t, "Share", s, e, span(want, want), api.OK)
	}
	b = bookB()
	b.Fields = []api.Field{field(40, 0, 1), field(30, 0, 0), field(20, 0, 0)}
	b.Measures = []api.Measure{measure(20, 2, 2), measure(30, 3, 3), measure(40, 1, 1)}
	for levy, want := range map[int][]int{1: {0, 1, 0}, 2: {0, 1, 1}, 3: {1, 1, 1}, 4: {1, 2, 1}, 5: {1, 2, 2}} {
		b.Levy = levy
		for i, id := range []int{20, 30, 40} {
			s, e := rods.Share(b, id)
			same(t, "Share", s, e, span(want[i], want[i]), api.OK)
		}
	}
}

// P11.7, P11.9, P11.10: nobody pays if all weights are 0; there can be truths with and without.
func TestNoWeight(t *testing.T) {
	b := bookB()
	b.Measures = []api.Measure{measure(1, 0, 0), measure(2, 0, 0), measure(3, 0, 1)}
	for id, want := range map[int]api.Span{1: span(0, 0), 2: span(0, 0), 3: span(0, 100)} {
		s, e := rods.Share(b, id)
		same(t, "Share", s, e, want, api.OK)
	}
	l, e := rods.Sure(b)
	sameList(t, "Sure", l, e, []int{1, 2}, api.OK)
	n, e := rods.Doubt(b)
	same(t, "Doubt", n, e, 100, api.OK)
	n, e = rods.Next(b)
	same(t, "Next", n, e, 3, api.OK)
	b.Rates = []int{0, 0}
	s, e := rods.Share(b, 3)
	same(t, "Share with rates of 0", s, e, span(0, 0), api.OK)
	l, e = rods.Sure(b)
	sameList(t, "Sure with rates of 0", l, e, []int{1, 2, 3}, api.OK)
	n, e = rods.Next(b)
	same(t, "Next with rates of 0", n, e, 3, api.OK)
}

// P11.8: an owner and a class without fields pay nothing, and so does everybody in a book without fields.
func TestWithoutFields(t *testing.T) {
	b := bookB()
	b.Rates = append(b.Rates, 100)
	s, e := rods.Owner(b, 9)
	same(t, "Owner without fields", s, e, span(0, 0), api.OK)
	s, e = rods.Class(b, 2)
	same(t, "Class without fields", s, e, span(0, 0), api.OK)
	b.Fields, b.Measures = nil, nil
	s, e = rods.Owner(b, 0)
	same(t, "Owner", s, e, span(0, 0), api.OK)
	s, e = rods.Class(b, 0)
	same(t, "Class", s, e, span(0, 0), api.OK)
	n, e := rods.Many(b)
	same(t, "Many", n, e, 1, api.OK)
	n, e = rods.Doubt(b)
	same(t, "Doubt", n, e, 0, api.OK)
	l, e := rods.Sure(b)
	sameList(t, "Sure", l, e, nil, api.OK)
	l, e = rods.Clash(b)
	sameList(t, "Clash", l, e, nil, api.OK)
	n, e = rods.Next(b)
	same(t, "Next", n, e, 0, api.ErrNone)
	s, e = rods.Areas(b, 1)
	same(t, "Areas", s, e, api.Span{}, api.ErrArg)
}

// P11.11: a field with a single area is not measured again, and of equal doubts the least Id comes first, and not the first field.
func TestNext(t *testing.T) {
	b := exactly(100, 10, 10, 10)
	n, e := rods.Next(b)
	same(t, "Next if all is known", n, e, 0, api.ErrNone)
	b.Fields = []api.Field{field(2, 0, 0), field(1, 0, 0), field(0, 0, 0)}
	b.Measures = []api.Measure{measure(2, 10, 11), measure(1, 10, 11), measure(0, 10, 10)}
	n, e = rods.Next(b)
	same(t, "Next of two fields that are alike", n, e, 1, api.OK)
	b.Measures[0] = measure(2, 10, 16)
	n, e = rods.Next(b)
	same(t, "Next of two fields", n, e, 2, api.OK)
	b.Measures[0] = measure(2, 10, 9999)
	n, e = rods.Next(b)
	same(t, "Next of a field that is not known", n, e, 2, api.OK)
	b.Measures[0], b.Measures[1] = measure(2, 11, 11), measure(1, 10, 11)
	n, e = rods.Next(b)
	same(t, "Next of a single field", n, e, 1, api.OK)
	b.Levy = 0
	n, e = rods.Next(b)
	same(t, "Next without a levy", n, e, 1, api.OK)
}

// P11.4 to P11.11, with everything tried: the levy is shared in two ways.
func TestTried(t *testing.T) {
	found, errors, kinds := 0, map[api.Errno]int{}, map[string]int{}
	small(11, 4000, func(_ *numbers, b api.RodBook) {
		k := learn(b, byRests)
		if other := learn(b, byReturns); !equal(k.paid, other.paid) {
			t.Fatalf("%+v: %v and %v", b, k.paid, other.paid)
		}
		for _, q := range queries(b) {
			sameTruths(t, b, q, k)
		}
		found++
		errors[k.error()]++
		count(b, k, kinds)
	})
	if found != 4000 || errors[api.OK] < 1500 || errors[api.ErrNone] < 100 || len(errors) != 2 {
		t.Errorf("errors: %v", errors)
	}
	for kind, least := range map[string]int{"pennies left": 1000, "equal rests": 150, "no weight": 500, "sure": 1000, "not sure": 1000, "next is not the first": 500, "two to measure": 1000} {
		if kinds[kind] < least {
			t.Errorf("%s: %d", kind, kinds[kind])
		}
	}
}

// sameTruths compares all functions that depend on truths with what all truths say.
func sameTruths(t *testing.T, b api.RodBook, q query, k known) {
	t.Helper()
	got := ofTruths(b, q)
	sameAnswers(t, "tried", got, k.asked(q))
	if t.Failed() {
		t.Fatalf("%+v of %+v", q, b)
	}
}

// count counts what is seen in a book.
func count(b api.RodBook, k known, kinds map[string]int) {
	if len(k.truths) == 0 || len(b.Fields) == 0 {
		return
	}
	areas := k.truths[0]
	sum, left, rests := sumOf(b, areas), 0, []int{}
	for i, area := range areas {
		if sum > 0 {
			rests = append(rests, b.Levy*weightOf(b, i, area)%sum)
			left += rests[i]
		}
	}
	if left > 0 {
		left /= sum
		slices.Sort(rests)
		slices.Reverse(rests)
	}
	several := 0
	for _, areas := range k.areas {
		if len(areas) > 1 {
			several++
		}
	}
	id, _ := k.next()
	for kind, is := range map[string]bool{
		"pennies left": left > 0, "equal rests": left > 0 && rests[left-1] == rests[left], "no weight": sum == 0,
		"sure": several > 0 && len(k.sure()) > 0, "not sure": len(k.sure()) < len(b.Fields),
		"two to measure": several > 1, "next is not the first": several > 1 && id != b.Fields[slices.IndexFunc(k.areas, func(l []int) bool { return len(l) > 1 })].Id,
	} {
		if is {
			kinds[kind]++
		}
	}
}

// The same with books of all sizes, some of which have too many truths.
func TestTriedLarge(t *testing.T) {
	errors, most := map[api.Errno]int{}, 0
	large(12, 160, func(n *numbers, b api.RodBook) {
		k := learn(b, byRests)
		errors[k.error()]++
		most = max(most, len(k.truths))
		if l := queries(b); len(l) > 0 {
			sameTruths(t, b, l[n.from(0, len(l)-1)], k)
		}
	})
	if errors[api.OK] < 60 || errors[api.ErrMany] < 15 || errors[api.ErrNone] < 15 || len(errors) != 3 || most < 10000 {
		t.Errorf("errors: %v, and at most %d truths", errors, most)
	}
}
