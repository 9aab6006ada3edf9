package rods_test

import (
	"maps"
	"math"
	"slices"
	"testing"

	"knurl/api"
	"knurl/rods"
)

// sameErrors fails the test unless all functions return an error, but for those that are listed with another one, and with each error zero values alone.
func sameErrors(t *testing.T, name string, b api.RodBook, q query, want api.Errno, but map[string]api.Errno) {
	t.Helper()
	for call, a := range asked(b, q) {
		wanted, other := but[call]
		if !other {
			wanted = want
		}
		if a.e != wanted {
			t.Errorf("%s of %s, %+v: %d, want %d", call, name, q, a.e, wanted)
		}
		zeroWithError(t, name, call, a)
	}
}

func zeroWithError(t *testing.T, name, call string, a answer) {
	t.Helper()
	isList := call == "Split" || call == "Clash" || call == "Sure"
	if a.e != api.OK && (isList && len(a.numbers) > 0 || slices.ContainsFunc(a.numbers, func(n int) bool { return n != 0 })) {
		t.Errorf("%s of %s = %v with the error %d", call, name, a.numbers, a.e)
	}
}

// calls returns an error for each of some functions.
func calls(e api.Errno, names ...string) map[string]api.Errno {
	m := map[string]api.Errno{}
	for _, name := range names {
		m[name] = e
	}
	return m
}

// withoutTruth are the functions that return ErrNone if there is no truth.
func withoutTruth() map[string]api.Errno {
	return calls(api.ErrNone, "Areas", "Many", "Share", "Owner", "Class", "Sure", "Doubt", "Next")
}

// withTooMany are the functions that return ErrMany if there are too many truths.
func withTooMany() map[string]api.Errno {
	return calls(api.ErrMany, "Many", "Share", "Owner", "Class", "Sure", "Doubt", "Next")
}

// both returns the errors of two maps; those of the second one come first.
func both(a, b map[string]api.Errno) map[string]api.Errno {
	m := maps.Clone(a)
	maps.Copy(m, b)
	return m
}

// badQuery is a query, and the functions that return ErrArg for it.
type badQuery struct {
	q   query
	but map[string]api.Errno
}

// badQueries are queries for B that are not valid, each for one reason.
func badQueries() map[string]badQuery {
	bad := map[string]badQuery{}
	add := func(name string, but map[string]api.Errno, change func(q *query)) {
		q := queryB()
		change(&q)
		bad[name] = badQuery{q, but}
	}
	for name, n := range map[string]int{"-1": -1, "100000001": 100000001, "least": math.MinInt, "greatest": math.MaxInt} {
		add("area "+name, calls(api.ErrArg, "Split"), func(q *query) { q.area = n })
	}
	for name, parts := range map[string][]int{
		"none": nil, "two": {1, 1}, "four": {0, 0, 0, 0}, "first -1": {-1, 0, 0}, "second -1": {0, -1, 0}, "third -1": {0, 0, -1}, "second 4": {0, 4, 0}, "third 40": {0, 0, 40}, "too great": {625000, 0, 1},
		"least": {math.MinInt, 0, 0}, "greatest": {math.MaxInt, 0, 0}, "all greatest": {math.MaxInt, math.MaxInt, math.MaxInt}, "all least": {math.MinInt, math.MinInt, math.MinInt},
	} {
		add("parts "+name, calls(api.ErrArg, "Join"), func(q *query) { q.parts = parts })
	}
	for name, n := range map[string]int{"-1": -1, "0": 0, "4": 4, "99": 99, "100": 100, "least": math.MinInt, "greatest": math.MaxInt} {
		add("field "+name, calls(api.ErrArg, "Areas", "Share"), func(q *query) { q.field = n })
	}
	for name, n := range map[string]int{"-1": -1, "10": 10, "least": math.MinInt, "greatest": math.MaxInt} {
		add("owner "+name, calls(api.ErrArg, "Owner"), func(q *query) { q.owner = n })
	}
	for name, n := range map[string]int{"-1": -1, "2": 2, "5": 5, "6": 6, "least": math.MinInt, "greatest": math.MaxInt} {
		add("class "+name, calls(api.ErrArg, "Class"), func(q *query) { q.class = n })
	}
	return bad
}

// R1, R2: ErrBook, then ErrArg, then ErrNone, then ErrMany.
func TestOrderOfErrors(t *testing.T) {
	sameErrors(t, "B", bookB(), queryB(), api.OK, nil)
	sameErrors(t, "no truth", bookN(), queryB(), api.OK, withoutTruth())
	sameErrors(t, "too many truths", bookM(), queryB(), api.OK, withTooMany())
	neither := bookM()
	neither.Measures = append(neither.Measures, measure(2, 6, 9))
	sameErrors(t, "too many areas of one field, none of another one", neither, queryB(), api.OK, withoutTruth())
	slices.Reverse(neither.Fields)
	sameErrors(t, "too many areas of one field, none of another one", neither, queryB(), api.OK, withoutTruth())
	for name, b := range badBooks() {
		sameErrors(t, name, b, queryB(), api.ErrBook, nil)
		for other, x := range badQueries() {
			sameErrors(t, name+", "+other, b, x.q, api.ErrBook, nil)
		}
	}
	for name, x := range badQueries() {
		sameErrors(t, "B, "+name, bookB(), x.q, api.OK, x.but)
		sameErrors(t, "no truth, "+name, bookN(), x.q, api.OK, both(withoutTruth(), x.but))
		if x.q.field == 1 && x.q.class == 1 {
			sameErrors(t, "too many truths, "+name, bookM(), x.q, api.OK, both(withTooMany(), x.but))
		}
	}
	for _, id := range []int{0, 4, 10, -1} {
		q := queryB()
		q.field, q.owner, q.class, q.area, q.parts = id, 10, 2, -1, nil
		all := calls(api.ErrArg, "Split", "Join", "Areas", "Share", "Owner", "Class")
		sameErrors(t, "too many truths", bookM(), q, api.OK, both(withTooMany(), all))
		sameErrors(t, "no truth", bookN(), q, api.OK, both(withoutTruth(), all))
		sameErrors(t, "B", bookB(), q, api.OK, all)
	}
}

// P11.11: ErrNone of Next comes behind ErrMany, and is that of Next alone.
func TestNothingToMeasure(t *testing.T) {
	b := exactly(100, 3, 4, 5)
	q := query{parts: []int{0, 0}}
	sameErrors(t, "all is known", b, q, api.OK, calls(api.ErrNone, "Next"))
	b.Measures = b.Measures[1:]
	sameErrors(t, "one field has not been measured", b, q, api.OK, nil)
	n, e := rods.Next(b)
	same(t, "Next", n, e, 0, api.OK)
}

// R7: the limits of what is asked are allowed.
func TestLimitsOfQueries(t *testing.T) {
	b := widest()
	for _, q := range []query{
		{100000000, []int{1, 0, 0, 0, 0}, 99, 9, 5}, {0, []int{0, 99, 99, 99, 99}, 94, 0, 0},
	} {
		sameErrors(t, "widest", b, q, api.OK, nil)
	}
	b = bookB()
	b.Fields[0].Id, b.Measures[0].Field, b.Measures[1].Field = 0, 0, 0
	sameErrors(t, "the Id 0", b, query{area: 0, parts: []int{625000, 0, 0}}, api.OK, nil)
}

// R3, R7: nil and empty are the same, and a limit includes its number and counts equal elements.
func TestNumberOfElements(t *testing.T) {
	wanted := func(least, most, count int) api.Errno {
		return map[bool]api.Errno{true: api.OK, false: api.ErrBook}[least <= count && count <= most]
	}
	check := func(name string, count int, e, want api.Errno) {
		if e != want {
			t.Errorf("Check of %d %s: %d, want %d", count, name, e, want)
		}
	}
	for count := range 15 {
		b := bookB()
		b.Units = slices.Repeat([]int{2}, count)
		check("units", count, rods.Check(b), wanted(1, api.MaxUnits, count))
		b = bookB()
		b.Rates = slices.Repeat([]int{2}, count)
		check("rates", count, rods.Check(b), wanted(2, api.MaxClasses, count))
		b = bookB()
		b.Measures = slices.Repeat(b.Measures[:1], count)
		check("measures", count, rods.Check(b), wanted(0, api.MaxMeasures, count))
		b = bookB()
		b.Fields, b.Measures = nil, nil
		for id := range count {
			b.Fields = append(b.Fields, field(id, 0, 0))
		}
		check("fields", count, rods.Check(b), wanted(0, api.MaxFields, count))
	}
	none, empty := api.RodBook{Units: []int{2}}, api.RodBook{Units: []int{2}, Rates: []int{}, Fields: []api.Field{}, Measures: []api.Measure{}}
	sameAnswers(t, "nil and empty lists", asked(none, query{}), asked(empty, query{parts: []int{}}))
	for _, b := range []api.RodBook{{}, {Units: []int{}}, {Units: make([]int, 1)}, {Units: make([]int, 1000)}} {
		sameErrors(t, "no book", b, queryB(), api.ErrBook, nil)
	}
	for call, a := range asked(bookB(), query{parts: []int{}, field: 1}) {
		if want := map[bool]api.Errno{true: api.ErrArg, false: api.OK}[call == "Join"]; a.e != want {
			t.Errorf("%s without parts: %d", call, a.e)
		}
	}
}

// R5, P11.4 to P11.11 with the greatest numbers.
func TestGreatest(t *testing.T) {
	b := widest()
	n, e := rods.Many(b)
	same(t, "Many", n, e, api.MaxTruths, api.OK)
	k := learn(b, byRests)
	for _, id := range []int{94, 95, 99} {
		q := query{field: id, owner: api.MaxOwner, class: api.MaxClasses - 1}
		sameAnswers(t, "greatest", ofTruths(b, q), k.asked(q))
	}
	b = exactly(api.MaxLevy, 0, 0, 9999)
	b.Rates[0] = api.MaxRate
	for id, want := range []api.Span{span(0, 0), span(0, 0), span(api.MaxLevy, api.MaxLevy)} {
		s, e := rods.Share(b, id)
		same(t, "Share", s, e, want, api.OK)
	}
	// All areas of all fields: 10000 to the power of 6 truths are more than an int holds.
	b = api.RodBook{Units: []int{2}, Rates: []int{1}}
	for id := range api.MaxFields {
		b.Fields = append(b.Fields, field(id, 0, 0))
	}
	sameErrors(t, "all areas", b, query{parts: []int{0, 0}}, api.OK, withTooMany())
	b.Measures = []api.Measure{measure(5, 1, 2), measure(5, 3, 4)}
	sameErrors(t, "all areas and a clash", b, query{parts: []int{0, 0}}, api.OK, withoutTruth())
}

// P1, R5, R8: no argument makes a function panic, or go on without end.
func TestAnyArguments(t *testing.T) {
	n := numbers{state: 42}
	pick := func() int { return wide()[n.from(0, len(wide())-1)] }
	found := map[api.Errno]int{}
	try := func(_ *numbers, b api.RodBook) {
		q := query{area: n.from(0, api.MaxTotal), parts: make([]int, len(b.Units)+1), owner: n.from(0, api.MaxOwner)}
		if l := queries(b); len(l) > 0 {
			q.field = l[n.from(0, len(l)-1)].field
		}
		b = copied(b)
		switch n.from(0, 9) {
		case 0:
			b.Levy = pick()
		case 1:
			b.Units[n.from(0, len(b.Units)-1)] = pick()
		case 2:
			b.Rates[n.from(0, len(b.Rates)-1)] = pick()
		case 3:
			b.Fields = slices.Insert(b.Fields, n.from(0, len(b.Fields)), field(pick(), pick(), pick()))
		case 4:
			b.Measures = slices.Insert(b.Measures, n.from(0, len(b.Measures)), measure(pick(), pick(), pick()))
		case 5:
			q = query{pick(), []int{pick(), pick(), pick()}, pick(), pick(), pick()}
		case 6:
			b.Fields = slices.Repeat(b.Fields, n.from(0, 2))
		case 7:
			b.Measures = slices.Repeat(b.Measures, n.from(0, 3))
		}
		for call, a := range asked(b, q) {
			zeroWithError(t, "any", call, a)
			found[a.e]++
		}
	}
	small(43, 2000, try)
	large(44, 60, try)
	if found[api.OK] < 5000 || found[api.ErrNone] < 500 || found[api.ErrBook] < 2000 || found[api.ErrArg] < 500 || found[api.ErrMany] < 200 || len(found) != 5 {
		t.Errorf("errors %v", found)
	}
}

// R4: a result is new memory, an argument stays as it was, also behind its end; and no state is kept.
func TestMemory(t *testing.T) {
	l := []api.RodBook{bookB(), bookN(), bookM(), widest()}
	small(45, 60, func(_ *numbers, b api.RodBook) { l = append(l, b) })
	parts := []int{6, 1, 0, 7}
	for _, y := range l {
		b := longer(y)
		before := whole(b)
		q := queryB()
		q.parts = parts[:3]
		for call, a := range asked(b, q) {
			again := asked(b, q)[call]
			if !equal(a, again) {
				t.Errorf("%s = %v, and then %v", call, a, again)
			}
			clear(a.numbers)
			if third := asked(b, q)[call]; !equal(third, again) {
				t.Errorf("%s = %v, and then %v", call, again, third)
			}
		}
		if after := whole(b); !equal(after, before) || !slices.Equal(parts, []int{6, 1, 0, 7}) {
			t.Errorf("an argument was changed: %+v, %v; it was %+v", after, parts, before)
		}
	}
}
