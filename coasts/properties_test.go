package coasts_test

import (
	"slices"
	"testing"

	"knurl/api"
	"knurl/coasts"
	"knurl/sheets"
)

// among returns whether all numbers of a list are in another one.
func among(a, b []int) bool {
	return !slices.ContainsFunc(a, func(n int) bool { return !slices.Contains(b, n) })
}

// counted returns Counts, none if there is no walk.
func counted(t *testing.T, c api.Coast, opening, from, to int) []int {
	t.Helper()
	l, e := coasts.Counts(c, opening, from, to)
	if (e == api.ErrNone) != (len(l) == 0) || e != api.OK && e != api.ErrNone {
		t.Fatalf("Counts of %+v, %d, %d to %d = %v, %d", c, opening, from, to, l, e)
	}
	return l
}

// everyOpening returns Openings of all dividers; all are empty if there is no truth.
func everyOpening(t *testing.T, c api.Coast) [][]int {
	t.Helper()
	lists := [][]int{}
	for divider := range c.Dividers {
		l, e := coasts.Openings(c, divider)
		if e != api.OK && e != api.ErrNone {
			t.Fatalf("Openings of %+v: %d", c, e)
		}
		lists = append(lists, l)
	}
	return lists
}

// wrong counts the reports that are not right with openings of all dividers.
func wrong(c api.Coast, openings []int) int {
	n := 0
	for _, r := range c.Reports {
		if !slices.Contains(layered(c, openings[r.Divider], r.From, r.To), r.Steps) {
			n++
		}
	}
	return n
}

// P10.11.
func TestEachTruth(t *testing.T) {
	found := map[int]int{}
	small(21, 1800, func(n *numbers, c api.Coast) {
		if truths(t, c) == 0 {
			return
		}
		lists := everyOpening(t, c)
		strange, e := coasts.Strange(c)
		if e != api.OK {
			t.Errorf("Strange of %+v: %d", c, e)
		}
		each(c.Dividers, func(openings []int) {
			if n.from(0, 9) > 0 || wrong(c, openings) > c.Wrong {
				return
			}
			for divider, opening := range openings {
				if !slices.Contains(lists[divider], opening) {
					t.Errorf("%+v: %v is a truth; Openings of %d = %v", c, openings, divider, lists[divider])
				}
			}
			for _, i := range strange {
				r := c.Reports[i]
				if slices.Contains(layered(c, openings[r.Divider], r.From, r.To), r.Steps) {
					t.Errorf("%+v: %v is a truth, in which %d is right; Strange = %v", c, openings, i, strange)
				}
			}
			if len(openings) > 0 {
				a, b := n.from(0, len(openings)-1), n.from(0, len(openings)-1)
				found[sure(t, c, a, b, openings)]++
			}
		})
	})
	if found[api.Surely] < 50 || found[api.Never] < 500 || found[api.Perhaps] < 500 {
		t.Errorf("cases: %v", found)
	}
}

// sure fails the test unless what Longer says for sure is so with openings, and returns what it says.
func sure(t *testing.T, c api.Coast, a, b int, openings []int) int {
	t.Helper()
	said, e := coasts.Longer(c, a, b)
	x, _ := coasts.Length(c, openings[a])
	y, _ := coasts.Length(c, openings[b])
	greater := x > 0 && y > 0 && x > y
	if e != api.OK || said == api.Surely && !greater || said == api.Never && greater {
		t.Errorf("%+v: %v is a truth, with the lengths %d and %d; Longer of %d %d = %d, %d", c, openings, x, y, a, b, said, e)
	}
	return said
}

// P10.12.
func TestWiderOpening(t *testing.T) {
	more, same, all := 0, 0, 0
	large(22, 1500, func(n *numbers, c api.Coast) {
		from, to := n.stretch(c)
		opening := n.opening(c)
		a := counted(t, c, opening, from, to)
		b := counted(t, c, n.from(opening, api.MaxOpening), from, to)
		if !among(a, b) || len(a) > 0 && b[0] > a[0] {
			t.Errorf("%+v, %d to %d: %v; with a wider opening than %d: %v", c, from, to, a, opening, b)
		}
		if len(b) > len(a) {
			more++
		} else if len(a) > 0 {
			same++
		}
		walk := []int{from}
		for bend := from + 1; bend <= to; bend++ {
			walk = append(walk, bend)
		}
		if isWalk(c, opening, from, to, walk) {
			all++
			if a[len(a)-1] != to-from {
				t.Errorf("%+v, %d, %d to %d: all bends between can be walked; Counts = %v", c, opening, from, to, a)
			}
		}
		if len(a) > 0 && a[len(a)-1] > to-from {
			t.Errorf("%+v, %d, %d to %d: Counts = %v", c, opening, from, to, a)
		}
	})
	if more < 200 || same < 200 || all < 200 {
		t.Errorf("cases: %d, %d, %d", more, same, all)
	}
}

// P10.13.
func TestByWayOfBend(t *testing.T) {
	found := 0
	large(23, 2000, func(n *numbers, c api.Coast) {
		from, to := n.stretch(c)
		if to-from < 2 {
			return
		}
		by, opening := n.from(from+1, to-1), n.opening(c)
		all := counted(t, c, opening, from, to)
		for _, x := range counted(t, c, opening, from, by) {
			for _, y := range counted(t, c, opening, by, to) {
				if !slices.Contains(all, x+y) {
					t.Errorf("%+v, %d: %d to %d with %d steps, from there to %d with %d; all: %v", c, opening, from, by, x, to, y, all)
				}
				found++
			}
		}
	})
	if found < 1000 {
		t.Errorf("cases: %d", found)
	}
}

// P10.14.
func TestLeastOpening(t *testing.T) {
	found := map[api.Errno]int{}
	large(24, 1000, func(n *numbers, c api.Coast) {
		from, to := n.stretch(c)
		before, none := api.MaxOpening, true
		for steps := 1; steps <= api.MaxBends; steps++ {
			opening, e := coasts.Opening(c, from, to, steps)
			found[e]++
			if e == api.ErrNone {
				if l := counted(t, c, api.MaxOpening, from, to); !none || len(l) > 0 && l[0] <= steps {
					t.Errorf("%+v, %d to %d, %d steps: none; Counts = %v", c, from, to, steps, l)
				}
				continue
			}
			none = false
			l := counted(t, c, opening, from, to)
			if e != api.OK || opening > before || len(l) == 0 || l[0] > steps {
				t.Errorf("%+v, %d to %d, %d steps: Opening = %d, %d; with one step less %d; Counts = %v", c, from, to, steps, opening, e, before, l)
			}
			before = opening
			if opening == 1 {
				continue
			}
			if l := counted(t, c, opening-1, from, to); len(l) > 0 && l[0] <= steps {
				t.Errorf("%+v, %d to %d, %d steps: Opening = %d; Counts with one less = %v", c, from, to, steps, opening, l)
			}
		}
	})
	if found[api.OK] < 1000 || found[api.ErrNone] < 1000 || len(found) != 2 {
		t.Errorf("cases: %v", found)
	}
}

// P10.15.
func TestMoreKnown(t *testing.T) {
	less, same, none := 0, 0, 0
	small(25, 1500, func(n *numbers, c api.Coast) {
		if len(c.Dividers) == 0 {
			return
		}
		more := copied(c)
		divider := n.from(0, len(c.Dividers)-1)
		s := &more.Dividers[divider]
		if n.from(0, 1) == 0 && len(c.Reports) < api.MaxReports {
			at := n.from(0, len(c.Reports))
			more.Reports = slices.Insert(more.Reports, at, n.report(c, divider, n.from(s.Low, s.High)))
		} else {
			s.Low = n.from(s.Low, s.High)
			s.High = n.from(s.Low, s.High)
		}
		before, after := truths(t, c), truths(t, more)
		if after > before {
			t.Errorf("%+v: %d truths; with more known %+v: %d", c, before, more, after)
		}
		if after == 0 {
			none++
			return
		}
		lists := everyOpening(t, c)
		for i, l := range everyOpening(t, more) {
			if !among(l, lists[i]) {
				t.Errorf("%+v: Openings of %d = %v; with more known %+v: %v", c, i, lists[i], more, l)
			}
		}
		if after < before {
			less++
		} else {
			same++
		}
	})
	if less < 200 || same < 200 || none < 200 {
		t.Errorf("cases: %d, %d, %d", less, same, none)
	}
}

// P10.15 and P10.5: Wrong does not matter to Fewest, and there is a truth just if Fewest is at most Wrong.
func TestFewestAndTruth(t *testing.T) {
	found := map[int]int{}
	large(26, 600, func(_ *numbers, c api.Coast) {
		fewest, e := coasts.Fewest(c)
		if e != api.OK {
			t.Errorf("Fewest of %+v: %d", c, e)
		}
		found[fewest]++
		for c.Wrong = range api.MaxReports + 1 {
			n, e := coasts.Fewest(c)
			same(t, "Fewest", n, e, fewest, api.OK)
			if n := truths(t, c); (n > 0) != (fewest <= c.Wrong) {
				t.Errorf("%+v: %d truths, Fewest %d", c, n, fewest)
			}
		}
	})
	if found[0] < 100 || found[1] < 50 || found[2] < 20 {
		t.Errorf("cases: %v", found)
	}
}

// P10.16.
func TestBack(t *testing.T) {
	found := 0
	large(27, 600, func(n *numbers, c api.Coast) {
		d := back(c)
		last := len(c.Bends) - 1
		for range 4 {
			from, to := n.stretch(c)
			opening, steps := n.opening(c), n.from(1, api.MaxBends)
			l, e := coasts.Counts(c, opening, from, to)
			m, f := coasts.Counts(d, opening, last-to, last-from)
			sameList(t, "Counts back", m, f, l, e)
			walk, f := coasts.Walk(d, opening, last-to, last-from)
			if f != e || e == api.OK && (!isWalk(d, opening, last-to, last-from, walk) || len(walk) != l[0]+1) {
				t.Errorf("%+v, %d, %d to %d: Walk = %v, %d", d, opening, last-to, last-from, walk, f)
			}
			a, e := coasts.Opening(c, from, to, steps)
			b, f := coasts.Opening(d, last-to, last-from, steps)
			same(t, "Opening back", b, f, a, e)
			a, e = coasts.Length(c, opening)
			b, f = coasts.Length(d, opening)
			same(t, "Length back", b, f, a, e)
		}
		found += sameTruths(t, c, d)
	})
	if found < 200 {
		t.Errorf("cases: %d", found)
	}
}

// sameTruths compares all that is said of truths, and returns 1 if there are some that say something.
func sameTruths(t *testing.T, c, d api.Coast) int {
	t.Helper()
	a, e := coasts.Fewest(c)
	b, f := coasts.Fewest(d)
	same(t, "Fewest", b, f, a, e)
	a, e = coasts.Many(c)
	b, f = coasts.Many(d)
	same(t, "Many", b, f, a, e)
	l, e := coasts.Strange(c)
	m, f := coasts.Strange(d)
	sameList(t, "Strange", m, f, l, e)
	for i := range c.Dividers {
		l, e := coasts.Openings(c, i)
		m, f := coasts.Openings(d, i)
		sameList(t, "Openings", m, f, l, e)
		for j := range c.Dividers {
			a, e := coasts.Longer(c, i, j)
			b, f := coasts.Longer(d, i, j)
			same(t, "Longer", b, f, a, e)
		}
	}
	if a > 0 && len(c.Reports) > 0 {
		return 1
	}
	return 0
}

// P0.15: the length is that on a sheet that has not shrunk. Two bends that are equal are reached with the least opening that there is.
func TestOpeningOnSheet(t *testing.T) {
	sheet := api.Sheet{Across: span(1000, 1000), Along: span(1000, 1000)}
	found := map[api.Errno]int{}
	n := numbers{state: 28}
	for range 3000 {
		far := [...]int{1, 4, 20, 60, 200}[n.from(0, 4)]
		c := api.Coast{Bends: n.bends(n.from(2, 4), far)}
		from, to := n.stretch(c)
		square, e := sheets.Length(sheet, c.Bends[from], c.Bends[to])
		if e != api.OK || square.Low != square.High {
			t.Fatalf("Length of %v and %v = %v, %d", c.Bends[from], c.Bends[to], square, e)
		}
		want, wantE := 1, api.OK
		for want*want < square.Low {
			want++
		}
		if want > api.MaxOpening {
			want, wantE = 0, api.ErrNone
		}
		opening, e := coasts.Opening(c, from, to, 1)
		same(t, "Opening", opening, e, want, wantE)
		found[wantE]++
	}
	if found[api.OK] < 1000 || found[api.ErrNone] < 500 {
		t.Errorf("cases: %v", found)
	}
}
