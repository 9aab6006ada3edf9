package bench_test

import (
	"slices"
	"strings"
	"testing"

	"knurl/api"
	"knurl/bench"
	"knurl/rods"
	"knurl/trials"
	"knurl/wheels"
)

// badBenches are benches that are not valid, each for one reason.
func badBenches() map[string]api.Bench {
	m := map[string]api.Bench{"nothing": {}}
	for name, change := range map[string]func(b *api.Bench){
		"Full 9":               func(b *api.Bench) { b.Trial.Wheel.Full = 9 },
		"Full 10001":           func(b *api.Bench) { b.Trial.Wheel.Full = 10001 },
		"Full 62":              func(b *api.Bench) { b.Trial.Wheel.Full = 62 },
		"Skew -1":              func(b *api.Bench) { b.Trial.Wheel.Skew = -1 },
		"Guess from 61 to 60":  func(b *api.Bench) { b.Trial.Wheel.Guess.Low = 61 },
		"Wrong 9":              func(b *api.Bench) { b.Trial.Wheel.Wrong = 9 },
		"Gain -1":              func(b *api.Bench) { b.Trial.Gain = -1 },
		"Gain 51":              func(b *api.Bench) { b.Trial.Gain = 51 },
		"seven tests":          func(b *api.Bench) { b.Trial.Tests = slices.Repeat(b.Trial.Tests, 7) },
		"test of 9001":         func(b *api.Bench) { b.Trial.Tests[0].Area = 9001 },
		"test of -1":           func(b *api.Bench) { b.Trial.Tests[0].Area = -1 },
		"nine walks of a test": func(b *api.Bench) { b.Trial.Tests[0].Walks = slices.Repeat(b.Walks[:1], 9) },
		"Sense 0 in a test":    func(b *api.Bench) { b.Trial.Tests[0].Walks[0].Sense = 0 },
		"End 100 in a test":    func(b *api.Bench) { b.Trial.Tests[0].Walks[0].End = 100 },
		"no units":             func(b *api.Bench) { b.Book.Units = nil },
		"Rate 101":             func(b *api.Bench) { b.Book.Rates[0] = 101 },
		"Levy -1":              func(b *api.Bench) { b.Book.Levy = -1 },
		"field twice":          func(b *api.Bench) { b.Book.Fields[0].Id = 7 },
		"field -1":             func(b *api.Bench) { b.Book.Fields[3].Id = -1 },
		"Owner 10":             func(b *api.Bench) { b.Book.Fields[0].Owner = 10 },
		"Class 2":              func(b *api.Bench) { b.Book.Fields[0].Class = 2 },
		"seven fields": func(b *api.Bench) {
			b.Book.Fields = append(b.Book.Fields, field(8, 0, 0), field(9, 0, 0), field(10, 0, 0))
		},
		"measure of no field": func(b *api.Bench) { b.Book.Measures[0].Field = 9 },
		"measure to 10000":    func(b *api.Bench) { b.Book.Measures[0].Area.High = 10000 },
		"13 measures":         func(b *api.Bench) { b.Book.Measures = slices.Repeat(b.Book.Measures[:1], 13) },
		"nine walks":          func(b *api.Bench) { b.Walks = slices.Repeat(b.Walks[:1], 9) },
		"Sense 2":             func(b *api.Bench) { b.Walks[1].Sense = 2 },
		"Side 0":              func(b *api.Bench) { b.Walks[0].Side = 0 },
		"Inside 2":            func(b *api.Bench) { b.Walks[0].Inside = 2 },
		"Start 100":           func(b *api.Bench) { b.Walks[0].Start = 100 },
		"End -1":              func(b *api.Bench) { b.Walks[0].End = -1 },
	} {
		m[name] = with(benchF(), change)
	}
	return m
}

// P12.1.
func TestCheck(t *testing.T) {
	for name, b := range map[string]api.Bench{
		"B": benchB(), "F": benchF(), "largest": largest(), "bare": bare(benchB()),
		"without truths":         with(benchF(), func(b *api.Bench) { b.Walks[1].End = 50; b.Trial.Tests[0].Area = 550 }),
		"measures without truth": with(benchF(), func(b *api.Bench) { b.Book.Measures[1] = measure(1, 0, 0) }),
		"six tests":              with(benchF(), func(b *api.Bench) { b.Trial.Tests = slices.Repeat(b.Trial.Tests, 6) }),
		"eight walks":            with(benchF(), func(b *api.Bench) { b.Walks = slices.Repeat(b.Walks, 4) }),
		"six fields":             with(benchF(), func(b *api.Bench) { b.Book.Fields = append(b.Book.Fields, field(8, 0, 0), field(9, 0, 0)) }),
		"12 measures":            with(benchF(), func(b *api.Bench) { b.Book.Measures = slices.Repeat(b.Book.Measures, 3) }),
	} {
		if e := bench.Check(b); e != api.OK {
			t.Errorf("Check of %s: %d", name, e)
		}
	}
	for name, b := range badBenches() {
		if e := bench.Check(b); e != api.ErrBench {
			t.Errorf("Check of %s: %d", name, e)
		}
	}
}

// P12.1: of each part alone, and of all of them.
func TestCheckOfParts(t *testing.T) {
	for part := range 8 {
		b, want := benchF(), api.OK
		if part&1 > 0 {
			b.Trial.Gain, want = 51, api.ErrBench
		}
		if part&2 > 0 {
			b.Book.Levy, want = -1, api.ErrBench
		}
		if part&4 > 0 {
			b.Walks[1].Inside, want = -1, api.ErrBench
		}
		if e := bench.Check(b); e != want {
			t.Errorf("Check of %s: %d, want %d", shown(b), e, want)
		}
	}
}

func TestExamples(t *testing.T) {
	var script, want []string
	b := benchB()
	for _, x := range []struct{ lines, answers []string }{
		{[]string{"walk 1 1 0 10 62", "bound", "next"}, []string{"ok", "50 54", "1 -1"}},
		{[]string{"walk 1 -1 0 62 16", "bound", "strange"}, []string{"ok", "53 53", "none"}},
		{[]string{"field 7 1 0", "take 7", "bound"}, []string{"ok", "53 53", "40 60"}},
		{[]string{"share 7", "owner 1", "doubt"}, []string{"53 54", "73 74", "2"}},
		{[]string{"walk 1 1 0 10 12", "test 1000", "gains", "errs 1000"}, []string{"ok", "ok", "0 1 2 3 4", "2 6"}},
		{[]string{"certify 1000 4", "decide 1000 4"}, []string{"open", "none"}},
		{[]string{"walk 1 -1 0 0 4", "test 1000", "skews"}, []string{"ok", "ok", "-1"}},
		{[]string{"certify 1000 4", "decide 1000 4", "certify 1000 3"}, []string{"passed", "2", "failed"}},
		{[]string{"rods 1000", "measure 9 1 2", "walk 1 1 0 10", "rods -0"}, []string{"6 1 0", "no", "?", "?"}},
	} {
		var answers []string
		answers, b = run(t, b, x.lines...)
		if !slices.Equal(answers, x.answers) {
			t.Errorf("%q: %q, want %q", x.lines, answers, x.answers)
		}
		script, want = append(script, x.lines...), append(want, x.answers...)
	}
	after := with(benchB(), func(b *api.Bench) {
		b.Book.Fields = append(b.Book.Fields, field(7, 1, 0))
		b.Book.Measures = append(b.Book.Measures, measure(7, 53, 53))
		b.Trial.Tests = []api.Test{{Area: 1000, Walks: []api.Walk{walk(1, 1, 0, 10, 12)}}, {Area: 1000, Walks: []api.Walk{walk(1, -1, 0, 0, 4)}}}
	})
	if shown(b) != shown(after) {
		t.Errorf("the bench is %s, want %s", shown(b), shown(after))
	}
	sameRun(t, benchB(), script, want, after)
}

// P12.2: lines that change something.
func TestChanges(t *testing.T) {
	for _, x := range []struct {
		line, answer string
		change       func(b *api.Bench)
	}{
		{"walk 1 1 0 10 62", "ok", func(b *api.Bench) { b.Walks = append(b.Walks, walk(1, 1, 0, 10, 62)) }},
		{"walk -1 -1 1 0 99", "ok", func(b *api.Bench) { b.Walks = append(b.Walks, walk(-1, -1, 1, 0, 99)) }},
		{"walk -1 1 0 99 0", "ok", func(b *api.Bench) { b.Walks = append(b.Walks, walk(-1, 1, 0, 99, 0)) }},
		{"clear", "ok", func(b *api.Bench) { b.Walks = nil }},
		{"test 9000", "ok", func(b *api.Bench) {
			b.Trial.Tests = append(b.Trial.Tests, api.Test{Area: 9000, Walks: b.Walks})
			b.Walks = nil
		}},
		{"test 0", "ok", func(b *api.Bench) {
			b.Trial.Tests = append(b.Trial.Tests, api.Test{Walks: b.Walks})
			b.Walks = nil
		}},
		{"drop", "ok", func(b *api.Bench) { b.Trial.Tests = nil }},
		{"field 99 9 1", "ok", func(b *api.Bench) { b.Book.Fields = append(b.Book.Fields, field(99, 9, 1)) }},
		{"field 0 0 0", "ok", func(b *api.Bench) { b.Book.Fields = append(b.Book.Fields, field(0, 0, 0)) }},
		{"measure 3 0 9999", "ok", func(b *api.Bench) { b.Book.Measures = append(b.Book.Measures, measure(3, 0, 9999)) }},
		{"measure 7 4 4", "ok", func(b *api.Bench) { b.Book.Measures = append(b.Book.Measures, measure(7, 4, 4)) }},
		{"measure 2 6 9", "ok", func(b *api.Bench) { b.Book.Measures = append(b.Book.Measures, measure(2, 6, 9)) }},
		{"take 7", "53 53", func(b *api.Bench) {
			b.Book.Measures = append(b.Book.Measures, measure(7, 53, 53))
			b.Walks = nil
		}},
		{"take 1", "53 53", func(b *api.Bench) {
			b.Book.Measures = append(b.Book.Measures, measure(1, 53, 53))
			b.Walks = nil
		}},
	} {
		sameRun(t, benchF(), []string{x.line}, []string{x.answer}, with(benchF(), x.change))
	}
}

// P12.2: take also measures with what can be without a walk, or with walks that leave several areas.
func TestTake(t *testing.T) {
	b := with(benchF(), func(b *api.Bench) { b.Walks = nil })
	sameRun(t, b, []string{"take 7"}, []string{"40 60"}, with(b, func(b *api.Bench) { b.Book.Measures = append(b.Book.Measures, measure(7, 40, 60)) }))
	b.Walks = []api.Walk{walk(1, 1, 0, 10, 62)}
	sameRun(t, b, []string{"take 7", "take 3", "clear"}, []string{"50 54", "40 60", "ok"}, with(b, func(b *api.Bench) {
		b.Book.Measures = append(b.Book.Measures, measure(7, 50, 54), measure(3, 40, 60))
		b.Walks = nil
	}))
	b.Trial.Wheel.Guess = span(9999, 9999)
	b.Walks = nil
	sameRun(t, b, []string{"take 7"}, []string{"9999 9999"}, with(b, func(b *api.Bench) { b.Book.Measures = append(b.Book.Measures, measure(7, 9999, 9999)) }))
}

// P12.2: lines with which the bench would not be valid, and other ones that are refused.
func TestRefused(t *testing.T) {
	full := largest()
	for _, x := range []struct {
		b            api.Bench
		line, answer string
	}{
		{benchF(), "walk 0 1 0 10 62", "no"}, {benchF(), "walk 2 1 0 10 62", "no"}, {benchF(), "walk 1 -2 0 10 62", "no"}, {benchF(), "walk 1 1 2 10 62", "no"}, {benchF(), "walk 1 1 -1 10 62", "no"},
		{benchF(), "walk 1 1 0 100 62", "no"}, {benchF(), "walk 1 1 0 -1 62", "no"}, {benchF(), "walk 1 1 0 10 100", "no"}, {benchF(), "walk 1 1 0 10 -1", "no"}, {benchF(), "walk 999999 -999999 0 10 62", "no"},
		{full, "walk 1 1 0 10 62", "no"}, {full, "test 1000", "no"}, {full, "field 0 0 0", "no"}, {full, "measure 99 1 2", "no"}, {full, "take 99", "no"},
		{benchF(), "test 9001", "no"}, {benchF(), "test -1", "no"}, {benchF(), "test 999999", "no"}, {benchB(), "drop", "no"},
		{benchF(), "field 7 0 0", "no"}, {benchF(), "field 100 0 0", "no"}, {benchF(), "field -1 0 0", "no"}, {benchF(), "field 8 10 0", "no"}, {benchF(), "field 8 -1 0", "no"}, {benchF(), "field 8 0 2", "no"}, {benchF(), "field 8 0 -1", "no"},
		{benchF(), "measure 9 1 2", "no"}, {benchF(), "measure -1 1 2", "no"}, {benchF(), "measure 1 2 1", "no"}, {benchF(), "measure 1 -1 1", "no"}, {benchF(), "measure 1 1 10000", "no"},
		{benchF(), "take 9", "no"}, {benchF(), "take -1", "no"}, {benchF(), "take 999999", "no"},
		{benchF(), "errs 9001", "no"}, {benchF(), "errs -1", "no"}, {benchF(), "certify 9001 4", "no"}, {benchF(), "certify 1000 10000", "no"}, {benchF(), "certify -1 4", "no"}, {benchF(), "certify 1000 -1", "no"},
		{benchF(), "decide 9001 4", "no"}, {benchF(), "decide 1000 10000", "no"}, {benchF(), "decide 1000 -1", "no"}, {benchF(), "share 9", "no"}, {benchF(), "share -1", "no"}, {benchF(), "owner 10", "no"}, {benchF(), "owner -1", "no"}, {benchF(), "rods -1", "no"},
	} {
		sameRun(t, x.b, []string{x.line}, []string{x.answer}, x.b)
		// The lines around it are answered as without it.
		sameRun(t, x.b, []string{"doubt", x.line, "doubt"}, []string{asked(x.b, "doubt", nil), x.answer, asked(x.b, "doubt", nil)}, x.b)
	}
}

// P12.2: what has no truth is none; what is asked wrongly is no, also then; too many truths are no.
func TestNone(t *testing.T) {
	lost := with(benchF(), func(b *api.Bench) {
		b.Walks[1].End = 50
		b.Trial.Tests[0].Area = 550
		b.Book.Measures[1] = measure(1, 0, 0)
	})
	sameLines(t, lost, map[string]string{
		"bound": "none", "strange": "none", "next": "none", "gains": "none", "skews": "none", "errs 1000": "none", "certify 1000 4": "none", "decide 1000 4": "none",
		"take 7": "none", "take 9": "none", "share 7": "none", "owner 1": "none", "doubt": "none", "rods 1000": "6 1 0", "rods -1": "no",
		"errs 9001": "no", "certify 9001 4": "no", "certify 1000 10000": "no", "decide 1000 10000": "no", "share 9": "no", "owner 10": "no",
	})
	many := with(benchF(), func(b *api.Bench) { b.Book.Measures = b.Book.Measures[:2] })
	sameLines(t, many, map[string]string{"share 1": "no", "share 9": "no", "owner 0": "no", "doubt": "no", "rods 159": "0 3 39", "bound": "53 53"})
}

// P12.2: how spans, lists, numbers and kinds are answered.
func TestAnswers(t *testing.T) {
	b := with(benchF(), func(b *api.Bench) {
		b.Trial.Tests = append(b.Trial.Tests, api.Test{Area: 1000, Walks: []api.Walk{walk(1, -1, 0, 0, 4)}})
		b.Walks = nil
	})
	sameLines(t, b, map[string]string{
		"bound": "40 60", "strange": "none", "next": "1 1", "gains": "3", "skews": "-1", "errs 1000": "4 4", "errs 0": "1 1", "errs 9000": "28 28", "rods 0": "0 0 0", "rods 999999": "6249 3 39",
		"certify 1000 4": "passed", "certify 1000 3": "failed", "certify 0 0": "failed", "certify 9000 9999": "passed", "decide 1000 4": "2", "decide 9000 9999": "0",
		"share 7": "0 100", "share 3": "0 43", "owner 1": "43 100", "owner 9": "0 0",
	})
	b.Trial.Tests = nil
	b.Trial.Gain, b.Trial.Wheel.Skew = 2, 1
	sameLines(t, b, map[string]string{
		"gains": "-2 -1 0 1 2", "skews": "-1 0 1", "errs 1000": "0 3", "certify 1000 1": "open", "decide 1000 1": "none", "certify 1000 3": "passed", "decide 1000 3": "0",
	})
	b.Walks = []api.Walk{walk(1, 1, 0, 10, 30), walk(1, 1, 0, 10, 62), walk(1, -1, 0, 10, 40), walk(-1, 1, 0, 10, 56)}
	b.Trial.Wheel.Wrong = 2
	sameLines(t, b, map[string]string{"strange": "0 2", "bound": "53 53", "next": "1 1"})
	b.Trial.Wheel.Wrong = 1
	sameLines(t, b, map[string]string{"strange": "none", "bound": "none", "next": "none"})
}

// sameLines fails the test unless each of some lines that only ask is answered as wanted.
func sameLines(t *testing.T, b api.Bench, want map[string]string) {
	t.Helper()
	for line, answer := range want {
		sameRun(t, b, []string{line}, []string{answer}, b)
	}
}

// P12.2: what is none of a script is answered so, whatever the bench is, and changes nothing.
func TestStrangeLines(t *testing.T) {
	for _, b := range []api.Bench{benchB(), benchF()} {
		for _, line := range strange() {
			if pattern.MatchString(line) {
				t.Errorf("%q is a line", line)
			}
			answers, after := run(t, b, line)
			if answers[0] != "?" || shown(after) != shown(b) {
				t.Errorf("%.40q: %q, and the bench %s", line, answers, shown(after))
			}
		}
	}
}

// P12.2: each line of the list with numbers of each number of digits, with too few and with too many numbers.
func TestNumbers(t *testing.T) {
	b := benchF()
	for _, x := range list() {
		words := strings.Fields(x)
		for count := range 8 {
			for _, n := range []string{"0", "5", "99", "999", "9999", "99999", "999999", "-999999", "-1", "1000000", "-1000000", "0999999", "00", "-0", "+1", "", "x", " 1"} {
				line := words[0] + strings.Repeat(" "+n, count)
				answers, after := run(t, b, line)
				want, left := expected(b, line)
				if answers[0] != want || shown(after) != shown(left) {
					t.Errorf("%q: %q, want %q; the bench is %s", line, answers, want, shown(after))
				}
				if isLine := count == len(words)-1 && (count == 0 || pattern.MatchString("rods "+n)); isLine != (answers[0] != "?") {
					t.Errorf("%q: %q", line, answers)
				}
			}
		}
	}
}

// P12.2 with everything that can be answered, as the chapter says line by line.
func TestRun(t *testing.T) {
	found := map[string]int{}
	rooms(t, 1, 700, func(o *room, b api.Bench) {
		script := o.script(o.from(0, api.MaxScript))
		want, after := all(b, script)
		sameRun(t, b, script, want, after)
		for i, line := range script {
			answer := want[i]
			if !isRefused(answer) && !slices.Contains([]string{"ok", "passed", "failed", "open"}, answer) {
				answer = "numbers"
			}
			if answer == "?" {
				line = "?"
			}
			found[word(line)+" "+answer]++
		}
	})
	for _, x := range strings.Split("walk ok,walk no,clear ok,bound numbers,bound none,strange numbers,strange none,next numbers,next none,test ok,test no,drop ok,drop no,gains numbers,gains none,skews numbers,skews none,errs numbers,errs none,errs no,certify passed,certify failed,certify open,certify none,certify no,"+
		"decide numbers,decide none,decide no,field ok,field no,measure ok,measure no,take numbers,take none,take no,share numbers,share none,share no,owner numbers,owner none,owner no,doubt numbers,doubt none,doubt no,rods numbers,rods no,? ?", ",") {
		if found[x] < 10 {
			t.Errorf("%s: %d", x, found[x])
		}
		delete(found, x)
	}
	if len(found) > 0 {
		t.Errorf("cases: %v", found)
	}
}

// P12.2: the greatest bench, and all lines that ask.
func TestLargest(t *testing.T) {
	b := largest()
	script := []string{"bound", "next", "strange", "gains", "skews", "errs 9000", "certify 9000 9999", "decide 9000 470", "share 99", "owner 9", "doubt", "rods 999999", "walk 1 1 0 0 0", "test 9000", "field 0 0 0", "measure 99 0 9999", "take 99", "drop", "clear"}
	want, after := all(b, script)
	sameRun(t, b, script, want, after)
	if wheels.Check(b.Trial.Wheel, b.Walks) != api.OK || trials.Check(b.Trial) != api.OK || rods.Check(b.Book) != api.OK || slices.Contains(want[:12], "no") {
		t.Errorf("answers %q", want)
	}
}
