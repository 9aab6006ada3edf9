package coasts_test

import (
	"maps"
	"math"
	"reflect"
	"slices"
	"testing"

	"knurl/api"
	"knurl/coasts"
)

// answer is what a function returns, each number of it, and its error.
type answer struct {
	numbers []int
	e       api.Errno
}

func one(n int, e api.Errno) answer    { return answer{[]int{n}, e} }
func list(l []int, e api.Errno) answer { return answer{l, e} }

// query is what is asked of a coast.
type query struct{ opening, from, to, steps, a, b int }

// asked returns what all functions answer.
func asked(c api.Coast, q query) map[string]answer {
	return map[string]answer{
		"Check":    {nil, coasts.Check(c)},
		"Counts":   list(coasts.Counts(c, q.opening, q.from, q.to)),
		"Walk":     list(coasts.Walk(c, q.opening, q.from, q.to)),
		"Opening":  one(coasts.Opening(c, q.from, q.to, q.steps)),
		"Fewest":   one(coasts.Fewest(c)),
		"Many":     one(coasts.Many(c)),
		"Openings": list(coasts.Openings(c, q.a)),
		"Strange":  list(coasts.Strange(c)),
		"Length":   one(coasts.Length(c, q.opening)),
		"Longer":   one(coasts.Longer(c, q.a, q.b)),
	}
}

// queryK is one for which all functions have an answer to K.
func queryK() query { return query{opening: 6, from: 0, to: 4, steps: 2, a: 0, b: 1} }

// sameErrors fails the test unless all functions return an error, but for those that are listed with another one, and with each error zero values alone.
func sameErrors(t *testing.T, name string, c api.Coast, q query, want api.Errno, but map[string]api.Errno) {
	t.Helper()
	for call, a := range asked(c, q) {
		wanted, other := but[call]
		if !other {
			wanted = want
		}
		if a.e != wanted {
			t.Errorf("%s of %s, %+v: %d, want %d", call, name, q, a.e, wanted)
		}
		zeroWithError(t, name, call, a)
	}
}

func zeroWithError(t *testing.T, name, call string, a answer) {
	t.Helper()
	isList := call == "Counts" || call == "Walk" || call == "Openings" || call == "Strange"
	if a.e != api.OK && (isList && len(a.numbers) > 0 || slices.ContainsFunc(a.numbers, func(n int) bool { return n != 0 })) {
		t.Errorf("%s of %s = %v with the error %d", call, name, a.numbers, a.e)
	}
}

// calls returns an error for each of some functions.
func calls(e api.Errno, names ...string) map[string]api.Errno {
	m := map[string]api.Errno{}
	for _, name := range names {
		m[name] = e
	}
	return m
}

// ofTruths are the functions that return ErrNone if there is no truth.
func ofTruths() map[string]api.Errno {
	return calls(api.ErrNone, "Many", "Openings", "Strange", "Longer")
}

// ofWalks are the functions that return ErrNone if there is no walk with an opening.
func ofWalks() map[string]api.Errno {
	return calls(api.ErrNone, "Counts", "Walk", "Length")
}

// both returns the errors of two maps; those of the second one come first.
func both(a, b map[string]api.Errno) map[string]api.Errno {
	m := maps.Clone(a)
	maps.Copy(m, b)
	return m
}

// badQuery is a query, and the functions that return ErrArg for it.
type badQuery struct {
	q   query
	but map[string]api.Errno
}

// badQueries are queries for K that are not valid, each for one reason.
func badQueries() map[string]badQuery {
	bad := map[string]badQuery{}
	add := func(name string, but map[string]api.Errno, change func(q *query)) {
		q := queryK()
		change(&q)
		bad[name] = badQuery{q, but}
	}
	for name, n := range map[string]int{"0": 0, "-1": -1, "61": 61, "least": math.MinInt, "greatest": math.MaxInt} {
		add("opening "+name, calls(api.ErrArg, "Counts", "Walk", "Length"), func(q *query) { q.opening = n })
	}
	for name, n := range map[string][2]int{"-1 4": {-1, 4}, "0 5": {0, 5}, "4 5": {4, 5}, "3 3": {3, 3}, "0 0": {0, 0}, "4 3": {4, 3}, "4 0": {4, 0}, "least": {math.MinInt, 4}, "greatest": {0, math.MaxInt}, "5 6": {5, 6}, "-2 -1": {-2, -1}} {
		add("bends "+name, calls(api.ErrArg, "Counts", "Walk", "Opening"), func(q *query) { q.from, q.to = n[0], n[1] })
	}
	for name, n := range map[string]int{"0": 0, "-1": -1, "13": 13, "least": math.MinInt, "greatest": math.MaxInt} {
		add("steps "+name, calls(api.ErrArg, "Opening"), func(q *query) { q.steps = n })
	}
	for name, n := range map[string]int{"-1": -1, "2": 2, "least": math.MinInt, "greatest": math.MaxInt} {
		add("a "+name, calls(api.ErrArg, "Openings", "Longer"), func(q *query) { q.a = n })
		add("b "+name, calls(api.ErrArg, "Longer"), func(q *query) { q.b = n })
		add("both "+name, calls(api.ErrArg, "Openings", "Longer"), func(q *query) { q.a, q.b = n, n })
	}
	return bad
}

// R1, R2: ErrCoast, then ErrArg, then ErrNone.
func TestOrderOfErrors(t *testing.T) {
	sameErrors(t, "K", coastK(), queryK(), api.OK, nil)
	sameErrors(t, "no truth", coastN(), queryK(), api.OK, ofTruths())
	for name, x := range badQueries() {
		for coast, c := range badCoasts() {
			sameErrors(t, coast+", "+name, c, x.q, api.ErrCoast, nil)
		}
		sameErrors(t, "K, "+name, coastK(), x.q, api.OK, x.but)
		sameErrors(t, "no truth, "+name, coastN(), x.q, api.OK, both(ofTruths(), x.but))
		if x.q.opening == queryK().opening {
			x.q.opening = 4
			sameErrors(t, "no walk, "+name, coastK(), x.q, api.OK, both(ofWalks(), x.but))
		}
	}
	for name, c := range badCoasts() {
		sameErrors(t, name, c, queryK(), api.ErrCoast, nil)
	}
}

// P10.2 to P10.4, P10.9: there is no walk, whether there is a truth or not.
func TestNoWalk(t *testing.T) {
	q := queryK()
	q.opening = 4
	sameErrors(t, "K", coastK(), q, api.OK, ofWalks())
	sameErrors(t, "no truth", coastN(), q, api.OK, both(ofWalks(), ofTruths()))
	far := api.Coast{Bends: []api.Point{point(-200, -200), point(200, 200), point(-200, -199)}, Dividers: []api.Span{span(1, 60)}}
	q = query{opening: 60, from: 0, to: 1, steps: 12}
	sameErrors(t, "a far bend", far, q, api.OK, calls(api.ErrNone, "Counts", "Walk", "Opening"))
	q.to = 2
	sameErrors(t, "past a far bend", far, q, api.OK, nil)
	n, e := coasts.Opening(far, 0, 2, 12)
	same(t, "Opening past a far bend", n, e, 1, api.OK)
	far.Reports = []api.Report{report(0, 0, 2, 2)}
	sameErrors(t, "past a far bend, no truth", far, q, api.OK, ofTruths())
}

// R7: the limits of what is asked are allowed.
func TestLimitsOfQueries(t *testing.T) {
	c := widest()
	for _, q := range []query{{60, 0, 11, 12, 0, 3}, {60, 10, 11, 1, 3, 0}, {60, 0, 1, 12, 3, 3}} {
		sameErrors(t, "widest", c, q, api.OK, nil)
	}
	b := coastB()
	l, e := coasts.Counts(b, 60, 0, 4)
	sameList(t, "Counts with the greatest opening", l, e, []int{1, 2, 3, 4}, api.OK)
	l, e = coasts.Counts(b, 1, 0, 4)
	sameList(t, "Counts with the least opening", l, e, nil, api.ErrNone)
	n, e := coasts.Opening(b, 0, 4, 12)
	same(t, "Opening with the most steps", n, e, 5, api.OK)
	n, e = coasts.Length(b, 60)
	same(t, "Length of the greatest opening", n, e, 60, api.OK)
}

// Without dividers there is one truth, which says nothing; without reports each opening can be.
func TestWithoutReports(t *testing.T) {
	b := coastB()
	n, e := coasts.Many(b)
	same(t, "Many without dividers", n, e, 1, api.OK)
	n, e = coasts.Fewest(b)
	same(t, "Fewest without dividers", n, e, 0, api.OK)
	l, e := coasts.Strange(b)
	sameList(t, "Strange without dividers", l, e, nil, api.OK)
	l, e = coasts.Openings(b, 0)
	sameList(t, "Openings without dividers", l, e, nil, api.ErrArg)
	n, e = coasts.Longer(b, 0, 0)
	same(t, "Longer without dividers", n, e, 0, api.ErrArg)
	b.Dividers = []api.Span{span(3, 5), span(1, 1), span(59, 60)}
	n, e = coasts.Many(b)
	same(t, "Many without reports", n, e, 6, api.OK)
	l, e = coasts.Openings(b, 0)
	sameList(t, "Openings without reports", l, e, []int{3, 4, 5}, api.OK)
	l, e = coasts.Strange(b)
	sameList(t, "Strange without reports", l, e, nil, api.OK)
}

// R3, R7: nil and empty are the same, and a limit includes its number and counts equal elements.
func TestNumberOfElements(t *testing.T) {
	wanted := func(most, count int) api.Errno {
		return map[bool]api.Errno{true: api.OK, false: api.ErrCoast}[count <= most]
	}
	for count := 2; count <= 15; count++ {
		c := coastK()
		c.Bends = slices.Repeat(c.Bends[:2], 8)[:count]
		c.Reports = nil
		sameErrors(t, "bends that come again", c, query{opening: 5, from: 0, to: 1, steps: 1, a: 1, b: 1}, wanted(api.MaxBends, count), nil)
	}
	for count := 1; count <= 6; count++ {
		c := coastK()
		c.Dividers, c.Reports = slices.Repeat(c.Dividers[:1], count), nil
		q := queryK()
		q.b = 0
		sameErrors(t, "equal dividers", c, q, wanted(api.MaxDividers, count), nil)
	}
	for count := range 11 {
		c := coastK()
		c.Reports = slices.Repeat(c.Reports[:1], count)
		sameErrors(t, "equal reports", c, queryK(), wanted(api.MaxReports, count), nil)
	}
	none, empty := coastB(), coastB()
	empty.Dividers, empty.Reports = []api.Span{}, []api.Report{}
	for call, a := range asked(none, queryK()) {
		if b := asked(empty, queryK())[call]; a.e != b.e || !slices.Equal(a.numbers, b.numbers) {
			t.Errorf("%s of nil: %v; of empty lists: %v", call, a, b)
		}
	}
	for _, c := range []api.Coast{{}, {Bends: []api.Point{}}, {Bends: make([]api.Point, 1)}, {Bends: make([]api.Point, 1000)}} {
		sameErrors(t, "no coast", c, queryK(), api.ErrCoast, nil)
	}
}

// P10.5 to P10.10 with the greatest numbers.
func TestGreatest(t *testing.T) {
	c := widest()
	n, e := coasts.Many(c)
	same(t, "Many", n, e, 60*60*60*60, api.OK)
	for wrong := 6; wrong >= 0; wrong -= 2 {
		// Two reports of each pair of dividers are right with the opening 60 alone.
		c.Wrong = wrong
		want := map[int]int{6: 60*60*60*60 - 59*59*59*59, 4: 4*59 + 6*59*59 + 1, 2: 4*59 + 1, 0: 1}[wrong]
		n, e := coasts.Many(c)
		same(t, "Many", n, e, want, api.OK)
		n, e = coasts.Fewest(c)
		same(t, "Fewest", n, e, 0, api.OK)
		l, e := coasts.Strange(c)
		sameList(t, "Strange", l, e, nil, api.OK)
		for divider := range api.MaxDividers {
			l, e := coasts.Openings(c, divider)
			if want := map[bool]int{true: 1, false: 60}[wrong == 0]; len(l) != want || l[len(l)-1] != 60 || e != api.OK {
				t.Errorf("Openings = %v, %d", l, e)
			}
		}
	}
	n, e = coasts.Longer(c, 0, 3)
	same(t, "Longer", n, e, api.Never, api.OK)
	n, e = coasts.Length(c, 60)
	same(t, "Length", n, e, 5*60, api.OK)
	n, e = coasts.Length(c, 59)
	same(t, "Length", n, e, 0, api.ErrNone)
}

// P1, R5, R8: no argument makes a function panic, or go on without end.
func TestAnyArguments(t *testing.T) {
	n := numbers{state: 42}
	pick := func() int { return wide()[n.from(0, len(wide())-1)] }
	found := map[api.Errno]int{}
	small(43, 3000, func(_ *numbers, c api.Coast) {
		from, to := n.stretch(c)
		q := query{n.opening(c), from, to, n.from(1, api.MaxBends), n.from(0, 3), n.from(0, 3)}
		c = copied(c)
		switch n.from(0, 8) {
		case 0:
			c.Wrong = pick()
		case 1:
			c.Bends = slices.Insert(c.Bends, n.from(0, len(c.Bends)), point(pick(), pick()))
		case 2:
			c.Dividers = slices.Insert(c.Dividers, n.from(0, len(c.Dividers)), span(pick(), pick()))
		case 3:
			c.Reports = slices.Insert(c.Reports, n.from(0, len(c.Reports)), report(pick(), pick(), pick(), pick()))
		case 4:
			c.Reports = slices.Repeat(c.Reports, n.from(0, 3))
		case 5:
			q = query{pick(), pick(), pick(), pick(), pick(), pick()}
		case 6:
			c.Dividers = slices.Repeat(c.Dividers, n.from(0, 2))
		case 7:
			c.Bends = slices.Repeat(c.Bends, n.from(0, 3))
		}
		for call, a := range asked(c, q) {
			zeroWithError(t, "any", call, a)
			found[a.e]++
		}
	})
	if found[api.OK] < 3000 || found[api.ErrNone] < 2000 || found[api.ErrCoast] < 2000 || found[api.ErrArg] < 1000 || len(found) != 4 {
		t.Errorf("errors %v", found)
	}
}

// longer returns a coast that shares no memory, with something behind the end of each list.
func longer(c api.Coast) api.Coast {
	c = copied(c)
	c.Bends = append(c.Bends, point(7, 7))[:len(c.Bends)]
	c.Dividers = append(c.Dividers, span(7, 7))[:len(c.Dividers)]
	c.Reports = append(c.Reports, report(7, 7, 7, 7))[:len(c.Reports)]
	return c
}

// whole returns a copy of a coast, with what is behind the end of each list.
func whole(c api.Coast) api.Coast {
	c.Bends = slices.Clone(c.Bends[:len(c.Bends)+1])
	c.Dividers = slices.Clone(c.Dividers[:len(c.Dividers)+1])
	c.Reports = slices.Clone(c.Reports[:len(c.Reports)+1])
	return c
}

// R4: a result is new memory, an argument stays as it was, also behind its end; and no state is kept.
func TestMemory(t *testing.T) {
	l := []api.Coast{coastK(), coastN(), coastB(), widest()}
	small(44, 60, func(_ *numbers, c api.Coast) { l = append(l, c) })
	for _, y := range l {
		c := longer(y)
		before := whole(c)
		for call, a := range asked(c, queryK()) {
			again := asked(c, queryK())[call]
			if !reflect.DeepEqual(a, again) {
				t.Errorf("%s = %v, and then %v", call, a, again)
			}
			clear(a.numbers)
			if third := asked(c, queryK())[call]; !reflect.DeepEqual(third, again) {
				t.Errorf("%s = %v, and then %v", call, again, third)
			}
		}
		if after := whole(c); !reflect.DeepEqual(after, before) {
			t.Errorf("an argument was changed: %+v; it was %+v", after, before)
		}
	}
}
