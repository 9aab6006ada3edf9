package bench_test

import (
	"fmt"
	"math"
	"reflect"
	"slices"
	"strings"
	"testing"

	"knurl/api"
	"knurl/bench"
)

// sameError fails the test unless Run returns an error, and with it zero values alone.
func sameError(t *testing.T, name string, b api.Bench, script []string, want api.Errno) {
	t.Helper()
	answers, after, e := bench.Run(b, script)
	if e != want {
		t.Errorf("Run of %s: %d, want %d", name, e, want)
	}
	if e != api.OK && (len(answers) > 0 || !reflect.ValueOf(after).IsZero()) {
		t.Errorf("Run of %s: %q, %s with the error %d", name, answers, shown(after), e)
	}
}

// R1, R2, R7: ErrBench, then ErrMany, which counts all lines.
func TestOrderOfErrors(t *testing.T) {
	for _, line := range []string{"", "clear", "?", "walk 1 1 0 10 62", "bound"} {
		for count, want := range map[int]api.Errno{0: api.OK, 1: api.OK, 39: api.OK, 40: api.OK, 41: api.ErrMany, 42: api.ErrMany, 1000: api.ErrMany} {
			script := slices.Repeat([]string{line}, count)
			for _, b := range []api.Bench{benchB(), benchF()} {
				sameError(t, fmt.Sprint(count, " lines ", line), b, script, want)
			}
			for name, b := range badBenches() {
				sameError(t, fmt.Sprint(name, ", ", count, " lines ", line), b, script, api.ErrBench)
			}
		}
	}
}

// P12.2: a script of 40 lines is answered to its end.
func TestLongest(t *testing.T) {
	script, want := slices.Repeat([]string{"rods 1000"}, 39), slices.Repeat([]string{"6 1 0"}, 39)
	sameRun(t, benchB(), append(script, "clear"), append(want, "ok"), benchB())
	sameRun(t, benchF(), append(script, "clear"), append(want, "ok"), with(benchF(), func(b *api.Bench) { b.Walks = nil }))
}

// R3: nil and empty are the same.
func TestNilAndEmpty(t *testing.T) {
	none := bare(benchB())
	none.Trial.Tests, none.Book.Rates = []api.Test{{Area: 1000}}, nil
	empty := none
	empty.Trial.Tests = []api.Test{{Area: 1000, Walks: []api.Walk{}}}
	empty.Book.Rates, empty.Book.Fields, empty.Book.Measures, empty.Walks = []int{}, []api.Field{}, []api.Measure{}, []api.Walk{}
	for _, script := range [][]string{nil, {}, {"bound", "strange", "next", "gains", "doubt", "owner 0", "share 0", "take 0", "field 0 0 0"}, {"test 5", "walk 1 1 0 10 62", "bound", "test 7", "drop", "drop", "drop", "drop"}} {
		want, after := all(none, script)
		sameRun(t, none, script, want, after)
		sameRun(t, empty, script, want, after)
	}
	none.Trial.Tests = nil
	empty.Trial.Tests = []api.Test{}
	for _, b := range []api.Bench{none, empty} {
		sameRun(t, b, nil, nil, none)
		sameRun(t, b, []string{"drop", "certify 1000 4", "decide 1000 4", "clear"}, []string{"no", "open", "none", "ok"}, none)
	}
}

// longer returns an equal bench whose lists go on behind their ends.
func longer(b api.Bench) api.Bench {
	b = copied(b)
	made := []api.Walk{walk(9, 9, 9, 9, 9), walk(8, 8, 8, 8, 8)}
	b.Walks = append(b.Walks, made...)[:len(b.Walks)]
	for i, test := range b.Trial.Tests {
		b.Trial.Tests[i].Walks = append(test.Walks, made...)[:len(test.Walks)]
	}
	b.Trial.Tests = append(b.Trial.Tests, api.Test{Area: 8, Walks: made}, api.Test{Area: 9})[:len(b.Trial.Tests)]
	b.Book.Units = append(b.Book.Units, 8, 9)[:len(b.Book.Units)]
	b.Book.Rates = append(b.Book.Rates, 8, 9)[:len(b.Book.Rates)]
	b.Book.Fields = append(b.Book.Fields, field(8, 8, 8), field(9, 9, 9))[:len(b.Book.Fields)]
	b.Book.Measures = append(b.Book.Measures, measure(8, 8, 8), measure(9, 9, 9))[:len(b.Book.Measures)]
	return b
}

// whole returns all that there is in the memory of a bench, also behind the ends of its lists.
func whole(b api.Bench) string {
	to := func(l any) any {
		v := reflect.ValueOf(l)
		return v.Slice(0, v.Cap()).Interface()
	}
	s := fmt.Sprintf("%+v %v %v %v %v %v", b, to(b.Walks), to(b.Book.Units), to(b.Book.Rates), to(b.Book.Fields), to(b.Book.Measures))
	for _, test := range b.Trial.Tests[:cap(b.Trial.Tests)] {
		s += fmt.Sprint(test.Area, to(test.Walks))
	}
	return s
}

// scribble changes all elements of a bench, and puts further ones behind the ends of its lists.
func scribble(b *api.Bench) {
	scratch := func(l []api.Walk) []api.Walk {
		for i := range l {
			l[i] = walk(7, 7, 7, 7, 7)
		}
		return append(l, walk(7, 7, 7, 7, 7))
	}
	b.Walks = scratch(b.Walks)
	for i := range b.Trial.Tests {
		scratch(b.Trial.Tests[i].Walks)
		b.Trial.Tests[i] = api.Test{Area: 7}
	}
	b.Trial.Tests = append(b.Trial.Tests, api.Test{Area: 7})
	for i := range b.Book.Units {
		b.Book.Units[i] = 77
	}
	for i := range b.Book.Rates {
		b.Book.Rates[i] = 77
	}
	for i := range b.Book.Fields {
		b.Book.Fields[i] = field(7, 7, 7)
	}
	for i := range b.Book.Measures {
		b.Book.Measures[i] = measure(7, 7, 7)
	}
	b.Book.Units, b.Book.Rates = append(b.Book.Units, 7), append(b.Book.Rates, 7)
	b.Book.Fields, b.Book.Measures = append(b.Book.Fields, field(7, 7, 7)), append(b.Book.Measures, measure(7, 7, 7))
}

// R4: a result is new memory, no argument is changed, and no state is kept.
func TestMemory(t *testing.T) {
	try := func(given api.Bench, script []string) {
		b := longer(given)
		lines := append(slices.Clone(script), "behind")[:len(script)]
		before := whole(b)
		answers, after := run(t, b, lines...)
		want, left := slices.Clone(answers), shown(after)
		again, second := run(t, b, lines...)
		scribble(&after)
		clear(answers)
		if whole(b) != before || !slices.Equal(lines, script) || lines[:len(script)+1][len(script)] != "behind" {
			t.Errorf("%s, %q: the argument became %s", shown(given), script, whole(b))
		}
		if !slices.Equal(again, want) || shown(second) != left {
			t.Errorf("%s, %q: %q, and then %q; %s, and then %s", shown(given), script, want, again, left, shown(second))
		}
		sameRun(t, b, lines, want, second)
		scribble(&b)
		if shown(second) != left {
			t.Errorf("%s, %q: the result changed with the argument", shown(given), script)
		}
	}
	for _, b := range []api.Bench{benchB(), benchF(), largest()} {
		try(b, nil)
		for _, line := range append(list(), "rods 5", "test 5", "drop", "field 8 0 0", "measure 1 2 3", "take 2", "walk 1 1 0 5 5", "clear", "?") {
			if b.Trial.Wheel.Full == 100 || line != "next" && line != "strange" {
				try(b, []string{line})
			}
		}
	}
	rooms(t, 2, 60, func(o *room, b api.Bench) { try(b, o.script(o.from(0, 20))) })
}

// R4: no two lists of a result share memory, and a bench that was given back stays as it was when another script is run with it.
func TestMemoryOfResults(t *testing.T) {
	try := func(b api.Bench, script []string) {
		_, after := run(t, b, script...)
		before := shown(after)
		made := slices.Clone(after.Walks)
		for i := range after.Trial.Tests {
			of := &after.Trial.Tests[i]
			kept := slices.Clone(of.Walks)
			clear(of.Walks)
			of.Walks = append(of.Walks, walk(7, 7, 7, 7, 7))
			of.Walks = kept
		}
		if shown(after) != before {
			t.Errorf("%s, %q: walks of tests share memory: %s, before %s", shown(b), script, shown(after), before)
		}
		clear(after.Walks)
		after.Walks = append(after.Walks, walk(7, 7, 7, 7, 7))
		after.Walks = made
		if shown(after) != before {
			t.Errorf("%s, %q: the walks share memory with a test: %s, before %s", shown(b), script, shown(after), before)
		}
		run(t, after, "walk 1 1 0 1 1", "test 7", "walk 1 1 0 2 2", "drop", "test 8", "walk 1 1 0 3 3", "take 1", "measure 1 0 9", "field 55 0 0", "clear")
		if shown(after) != before {
			t.Errorf("%s, %q: the bench was changed by another script", shown(b), script)
		}
	}
	try(benchB(), []string{"walk 1 1 0 1 1", "walk 1 1 0 2 2", "walk 1 1 0 3 3", "test 1000", "walk 1 1 0 4 4", "test 2000", "walk 1 1 0 5 5", "test 9001", "walk 1 1 0 6 6"})
	try(benchF(), []string{"test 9001", "walk 1 1 0 4 4", "test 500", "walk 1 1 0 5 5", "clear", "walk 1 1 0 6 6", "take 1", "walk 1 1 0 7 7", "drop", "walk 1 1 0 8 8", "test 1", "walk 1 1 0 9 9"})
	rooms(t, 3, 60, func(o *room, b api.Bench) { try(b, o.script(30)) })
}

// wide are numbers of all sizes.
func wide() []int {
	return []int{math.MinInt, -1 << 32, -10001, -2, -1, 0, 1, 2, 9, 10, 99, 100, 9000, 9999, 10000, 999999, 1000000, 1 << 32, math.MaxInt}
}

// P1, R5, R8: no argument makes a function panic, or go on without end.
func TestAnyArguments(t *testing.T) {
	found := map[api.Errno]int{}
	rooms(t, 4, 1000, func(o *room, b api.Bench) {
		some := func() int { return pick(o.row, wide()...) }
		b = copied(b)
		w := &b.Trial.Wheel
		for range o.from(0, 2) {
			*pick(o.row, &w.Full, &w.Read, &w.Slip, &w.Skew, &w.Circle, &w.Wrong, &b.Trial.Gain, &b.Book.Levy, &w.Guess.Low, &b.Book.Units[0]) = some()
		}
		switch o.from(0, 5) {
		case 0:
			b.Walks = append(b.Walks, walk(some(), some(), some(), some(), some()))
		case 1:
			b.Trial.Tests = append(b.Trial.Tests, api.Test{Area: some(), Walks: b.Walks})
		case 2:
			b.Book.Fields = append(b.Book.Fields, field(some(), some(), some()))
		case 3:
			b.Book.Measures = append(b.Book.Measures, measure(some(), some(), some()))
		}
		var script []string
		for range pick(o.row, o.from(0, 5), o.from(0, 5), 41) {
			line := pick(o.row, list()...)
			for _, letter := range strings.Fields(line)[1:] {
				line = strings.Replace(line, " "+letter, fmt.Sprint(" ", some()), 1)
			}
			script = append(script, line)
		}
		e := bench.Check(b)
		if e == api.OK && len(script) > api.MaxScript {
			e = api.ErrMany
		}
		sameError(t, fmt.Sprintf("%s, %q", shown(b), script), b, script, e)
		if e == api.OK {
			want, after := all(b, script)
			sameRun(t, b, script, want, after)
		}
		found[e]++
	})
	if found[api.OK] < 100 || found[api.ErrBench] < 300 || found[api.ErrMany] < 30 || len(found) != 3 {
		t.Errorf("errors %v", found)
	}
}
