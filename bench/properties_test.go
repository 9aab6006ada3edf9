package bench_test

import (
	"fmt"
	"slices"
	"strings"
	"testing"

	"knurl/api"
	"knurl/bench"
	"knurl/rods"
	"knurl/trials"
	"knurl/wheels"
)

// P12.3.
func TestHalves(t *testing.T) {
	rooms(t, 11, 150, func(o *room, b api.Bench) {
		script := o.script(o.from(0, api.MaxScript))
		want, after := run(t, b, script...)
		cut := o.from(0, len(script))
		first, between := run(t, b, script[:cut]...)
		second, left := run(t, between, script[cut:]...)
		if !slices.Equal(append(first, second...), want) || shown(left) != shown(after) {
			t.Errorf("%s, %q cut behind %d: %q and %q, want %q; %s, want %s", shown(b), script, cut, first, second, want, shown(left), shown(after))
		}
	})
}

// P12.3: a script that is run line by line.
func TestLineByLine(t *testing.T) {
	rooms(t, 12, 60, func(o *room, b api.Bench) {
		script := o.script(o.from(0, api.MaxScript))
		want, after := run(t, b, script...)
		left := b
		for i, line := range script {
			var answers []string
			answers, left = run(t, left, line)
			if answers[0] != want[i] {
				t.Errorf("%s, %q: the line %d is answered %q, not %q", shown(b), script, i, answers[0], want[i])
			}
		}
		if shown(left) != shown(after) {
			t.Errorf("%s, %q: the bench is %s, want %s", shown(b), script, shown(left), shown(after))
		}
	})
}

// P12.4: without all such lines, and without some of them.
func TestNothingChanges(t *testing.T) {
	without := 0
	rooms(t, 13, 150, func(o *room, b api.Bench) {
		script := o.script(o.from(0, api.MaxScript))
		answers, after := run(t, b, script...)
		for _, part := range []int{0, o.from(1, 3)} {
			var kept, want []string
			for i, line := range script {
				if isRefused(answers[i]) && o.from(0, part) == 0 {
					without++
					continue
				}
				kept, want = append(kept, line), append(want, answers[i])
			}
			sameRun(t, b, kept, want, after)
		}
	})
	if without < 1000 {
		t.Errorf("cases: %d", without)
	}
}

// P12.4, P12.5: lines that ask change nothing, wherever they stand, and are answered as the functions say of the bench there.
func TestAsked(t *testing.T) {
	rooms(t, 14, 100, func(o *room, b api.Bench) {
		script := o.script(o.from(0, api.MaxScript/2))
		var more, want []string
		now := b
		for _, line := range script {
			question := o.ask()
			more, want = append(more, question), append(want, asked(now, word(question), args(question)))
			var answers []string
			answers, now = run(t, now, line)
			more, want = append(more, line), append(want, answers[0])
		}
		sameRun(t, b, more, want, now)
	})
}

// args returns the numbers of a line, of which there are two at most, and zeros behind them.
func args(line string) []int {
	var n [2]int
	fmt.Sscan(strings.TrimPrefix(line, word(line)), &n[0], &n[1])
	return n[:]
}

// isSpan returns whether an answer is two numbers.
func isSpan(answer string) bool { return !isRefused(answer) && len(strings.Fields(answer)) == 2 }

// spanOf returns the span that an answer is.
func spanOf(t *testing.T, answer string) api.Span {
	t.Helper()
	var s api.Span
	if _, err := fmt.Sscan(answer, &s.Low, &s.High); err != nil {
		t.Fatalf("%q: %v", answer, err)
	}
	return s
}

// P12.6.
func TestTaken(t *testing.T) {
	taken, narrower, unknown := 0, 0, 0
	rooms(t, 15, 500, func(o *room, b api.Bench) {
		_, b = run(t, b, o.field()...)
		if len(b.Book.Fields) == 0 || len(b.Book.Measures) == api.MaxMeasures {
			return
		}
		f := pick(o.row, b.Book.Fields...)
		o.figure()
		script := []string{"clear", o.walk(), o.walk()}[:o.from(0, 3)]
		_, before := run(t, b, script...)
		share, take := fmt.Sprint("share ", f.Id), fmt.Sprint("take ", f.Id)
		answers, after := run(t, before, "bound", share, take, share)
		if answers[0] != answers[2] {
			t.Errorf("%s: bound is %s, %s %s", shown(before), answers[0], take, answers[2])
		}
		if !isSpan(answers[2]) {
			return
		}
		taken++
		if m := after.Book.Measures[len(before.Book.Measures)]; m != (api.Measure{Field: f.Id, Area: spanOf(t, answers[0])}) || len(after.Walks) > 0 {
			t.Errorf("%s: %s made the measure %v, and left %v", shown(before), take, m, after.Walks)
		}
		if !isSpan(answers[1]) || !isSpan(answers[3]) {
			unknown++
			return
		}
		was, is := spanOf(t, answers[1]), spanOf(t, answers[3])
		if is.Low < was.Low || is.High > was.High {
			t.Errorf("%s: %s is %s, and before %s", shown(before), share, answers[3], answers[1])
		}
		if is != was {
			narrower++
		}
	})
	if taken < 200 || narrower < 20 || unknown < 20 {
		t.Errorf("cases: %d, %d, %d", taken, narrower, unknown)
	}
}

// P12.7: the lines measure of a script change places among each other.
func TestAnyOrder(t *testing.T) {
	turned := 0
	rooms(t, 16, 300, func(o *room, b api.Bench) {
		var script, asks []string
		for range 3 {
			script = append(script, o.field()...)
		}
		for range 6 {
			script = append(append(script, o.measure(o.id())), o.lines()...)
		}
		for range 12 {
			asks = append(asks, o.ask())
		}
		script = withoutRefused(t, b, script)
		want, _ := runs(t, b, append(script, asks...))
		for range 3 {
			other := shuffledMeasures(o.row, script)
			got, _ := runs(t, b, append(other, asks...))
			if slices.Equal(other, script) || !measuresAreOk(other, got) {
				continue
			}
			turned++
			if !slices.Equal(got[len(script):], want[len(script):]) {
				t.Errorf("%s, %q behind %q: %q, want %q", shown(b), asks, other, got[len(script):], want[len(script):])
			}
		}
	})
	if turned < 300 {
		t.Errorf("cases: %d", turned)
	}
}

// withoutRefused returns a script without the lines measure that are not answered ok.
func withoutRefused(t *testing.T, b api.Bench, script []string) []string {
	answers, _ := runs(t, b, script)
	var kept []string
	for i, line := range script {
		if word(line) != "measure" || answers[i] == "ok" {
			kept = append(kept, line)
		}
	}
	return kept
}

// shuffledMeasures returns a script in which the lines measure stand in each other's places.
func shuffledMeasures(r *row, script []string) []string {
	var measures []string
	for _, line := range script {
		if word(line) == "measure" {
			measures = append(measures, line)
		}
	}
	shuffle(r, measures)
	other := slices.Clone(script)
	for i, line := range script {
		if word(line) == "measure" {
			other[i], measures = measures[0], measures[1:]
		}
	}
	return other
}

// measuresAreOk returns whether all lines measure were answered ok.
func measuresAreOk(script, answers []string) bool {
	for i, line := range script {
		if word(line) == "measure" && answers[i] != "ok" {
			return false
		}
	}
	return true
}

// P12.8.
func TestWrittenDown(t *testing.T) {
	lines := 0
	try := func(b api.Bench) {
		script := writes(b)
		answers, after := runs(t, bare(b), script)
		if i := slices.IndexFunc(answers, func(answer string) bool { return answer != "ok" }); i >= 0 {
			t.Errorf("%s: %q is answered %q", shown(b), script[i], answers[i])
		}
		if shown(after) != shown(b) {
			t.Errorf("%q: the bench is %s, want %s", script, shown(after), shown(b))
		}
		lines += len(script)
	}
	for _, b := range []api.Bench{benchB(), benchF(), largest(), bare(benchB())} {
		try(b)
	}
	rooms(t, 17, 200, func(o *room, b api.Bench) {
		_, b = all(b, o.script(30))
		try(b)
	})
	if lines < 1500 {
		t.Errorf("lines: %d", lines)
	}
}

// P12.9.
func TestCertified(t *testing.T) {
	found := map[string]int{}
	rooms(t, 18, 400, func(o *room, b api.Bench) {
		certify := fmt.Sprintf("certify %d %d", pick(o.row, o.from(0, 9000), 1000), o.from(0, 12))
		before := ""
		for range 4 {
			var answers []string
			answers, _ = run(t, b, certify)
			if before == "passed" && answers[0] == "failed" || before == "failed" && answers[0] == "passed" {
				t.Errorf("%s: %s is answered %s, and before %s", shown(b), certify, answers[0], before)
			}
			before = answers[0]
			found[before]++
			_, b = run(t, b, o.test()...)
		}
	})
	for _, answer := range []string{"passed", "failed", "open", "none"} {
		if found[answer] < 80 {
			t.Errorf("cases: %v", found)
		}
	}
}

// P0.16.
func TestTaxedByWheel(t *testing.T) {
	answered := map[bool]int{}
	rooms(t, 19, 300, func(o *room, b api.Bench) {
		_, b = run(t, b, o.field()...)
		if len(b.Book.Fields) == 0 || len(b.Book.Measures) == api.MaxMeasures {
			return
		}
		f := pick(o.row, b.Book.Fields...)
		o.figure()
		script := []string{"clear"}
		for range o.from(0, 3) {
			script = append(script, o.walk())
		}
		_, made := run(t, b, script...)
		area, e := wheels.Bound(made.Trial.Wheel, made.Walks)
		answers, _ := run(t, made, fmt.Sprint("take ", f.Id), fmt.Sprint("share ", f.Id))
		if e != api.OK || isRefused(answers[0]) {
			return
		}
		book := copied(b).Book
		book.Measures = append(book.Measures, api.Measure{Field: f.Id, Area: area})
		s, e := rods.Share(book, f.Id)
		if answers[1] != numbers(e, s.Low, s.High) {
			t.Errorf("%s: %q; Share is %v, %d", shown(made), answers, s, e)
		}
		answered[e == api.OK]++
	})
	if answered[true] < 50 || answered[false] < 20 {
		t.Errorf("cases: %v", answered)
	}
}

// P0.17.
func TestFewestTests(t *testing.T) {
	found := map[int]int{}
	rooms(t, 20, 500, func(o *room, b api.Bench) {
		_, b = all(b, slices.Concat(o.test(), o.test(), o.test(), o.test()))
		c := api.Class{Size: pick(o.row, o.from(0, 9000), 1000), Most: o.from(0, 12)}
		l, e := trials.Decide(b.Trial, c)
		if e != api.OK {
			return
		}
		certify := fmt.Sprintf("certify %d %d", c.Size, c.Most)
		want, _ := run(t, b, certify)
		just := bare(b)
		for _, i := range l {
			just.Trial.Tests = append(just.Trial.Tests, b.Trial.Tests[i])
		}
		answers, after := runs(t, bare(b), append(writes(just), certify))
		if got := answers[len(answers)-1]; got != want[0] || got != "passed" && got != "failed" {
			t.Errorf("%s: %s with the tests %v is answered %s, with all tests %s", shown(b), certify, l, got, want[0])
		}
		found[len(l)]++
		if len(l) == 0 {
			return
		}
		if answers, _ := run(t, after, "drop", certify); answers[1] != "open" {
			t.Errorf("%s: without the last one of the tests %v %s is answered %s", shown(b), l, certify, answers[1])
		}
	})
	if found[0] < 20 || found[1] < 20 || found[2] < 5 {
		t.Errorf("cases: %v", found)
	}
}

// P12.5 with P12.1: a bench that Run gives back is valid.
func TestStaysValid(t *testing.T) {
	rooms(t, 21, 100, func(o *room, b api.Bench) {
		for range 8 {
			_, b = run(t, b, o.lines()...)
			if e := bench.Check(b); e != api.OK {
				t.Fatalf("Check of %s: %d", shown(b), e)
			}
		}
	})
}
