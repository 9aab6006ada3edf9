package bench_test

import (
	"fmt"
	"regexp"
	"slices"
	"strconv"
	"strings"
	"testing"

	"knurl/api"
	"knurl/bench"
	"knurl/rods"
	"knurl/trials"
	"knurl/wheels"
)

func span(low, high int) api.Span { return api.Span{Low: low, High: high} }

func field(id, owner, class int) api.Field { return api.Field{Id: id, Owner: owner, Class: class} }

func measure(field, low, high int) api.Measure {
	return api.Measure{Field: field, Area: span(low, high)}
}

func walk(sense, side, inside, start, end int) api.Walk {
	return api.Walk{Sense: sense, Side: side, Inside: inside, Start: start, End: end}
}

// benchB is B of the chapter's examples.
func benchB() api.Bench {
	return api.Bench{
		Trial: api.Trial{Wheel: api.Wheel{Full: 100, Skew: 2, Guess: span(40, 60)}, Gain: 20},
		Book: api.RodBook{
			Units: []int{4, 40}, Rates: []int{1, 3}, Levy: 100,
			Fields:   []api.Field{field(1, 0, 0), field(2, 0, 1), field(3, 1, 0)},
			Measures: []api.Measure{measure(1, 10, 12), measure(1, 11, 14), measure(2, 5, 5), measure(3, 20, 20)},
		},
	}
}

// benchF is B with a test, walks, and a field that nobody has measured.
func benchF() api.Bench {
	b := benchB()
	b.Trial.Tests = []api.Test{{Area: 1000, Walks: []api.Walk{walk(1, 1, 0, 10, 12)}}}
	b.Walks = []api.Walk{walk(1, 1, 0, 10, 62), walk(1, -1, 0, 62, 16)}
	b.Book.Fields = append(b.Book.Fields, field(7, 1, 0))
	return b
}

// largest is a bench with the greatest numbers, and as many elements as can be; the walks and the tests agree.
func largest() api.Bench {
	made := slices.Repeat([]api.Walk{walk(1, 1, 1, 9999, 0), walk(-1, -1, 0, 1, 0)}, api.MaxWalks/2)
	b := api.Bench{Trial: api.Trial{
		Wheel: api.Wheel{Full: 10000, Read: 20, Slip: 20, Skew: 20, Circle: 9999, Guess: span(0, 9999), Wrong: 8}, Gain: 50,
		Tests: slices.Repeat([]api.Test{{Area: 9000, Walks: made}}, api.MaxTests),
	}, Walks: made}
	b.Book = api.RodBook{Units: []int{100, 100, 100, 100}, Rates: []int{100, 100, 100, 100, 100, 100}, Levy: 100000}
	for i := range api.MaxFields {
		b.Book.Fields = append(b.Book.Fields, field(99-i, 9, 5))
		b.Book.Measures = append(b.Book.Measures, measure(99-i, 9999, 9999), measure(99-i, 0, 9999))
	}
	return copied(b)
}

// copied returns a bench that shares no memory.
func copied(b api.Bench) api.Bench {
	b.Trial.Tests = append([]api.Test(nil), b.Trial.Tests...)
	for i := range b.Trial.Tests {
		b.Trial.Tests[i].Walks = append([]api.Walk(nil), b.Trial.Tests[i].Walks...)
	}
	b.Book.Units = append([]int(nil), b.Book.Units...)
	b.Book.Rates = append([]int(nil), b.Book.Rates...)
	b.Book.Fields = append([]api.Field(nil), b.Book.Fields...)
	b.Book.Measures = append([]api.Measure(nil), b.Book.Measures...)
	b.Walks = append([]api.Walk(nil), b.Walks...)
	return b
}

// with returns a changed copy of a bench.
func with(b api.Bench, change func(b *api.Bench)) api.Bench {
	b = copied(b)
	change(&b)
	return b
}

// shown returns a bench as a text; nil and empty lists look alike.
func shown(b api.Bench) string { return fmt.Sprintf("%+v", b) }

// run returns what Run does of a valid bench and a script that is not too long.
func run(t *testing.T, b api.Bench, script ...string) ([]string, api.Bench) {
	t.Helper()
	answers, after, e := bench.Run(b, script)
	if e != api.OK || len(answers) != len(script) {
		t.Fatalf("Run of %s, %q: %q, %d", shown(b), script, answers, e)
	}
	return answers, after
}

// sameRun fails the test unless Run has some answers, and leaves a bench.
func sameRun(t *testing.T, b api.Bench, script, want []string, after api.Bench) {
	t.Helper()
	answers, left := run(t, b, script...)
	if !slices.Equal(answers, want) {
		t.Errorf("%s, %q: %q, want %q", shown(b), script, answers, want)
	}
	if shown(left) != shown(after) {
		t.Errorf("%s, %q: the bench is %s, want %s", shown(b), script, shown(left), shown(after))
	}
}

// list is the chapter's list of lines.
func list() []string {
	return []string{
		"walk S P I A B", "clear", "bound", "strange", "next", "test A", "drop", "gains", "skews", "errs A", "certify S M", "decide S M",
		"field I O C", "measure F L H", "take F", "share F", "owner O", "doubt", "rods A",
	}
}

// asking are the words of lines that only ask.
func asking() []string {
	return []string{"bound", "strange", "next", "gains", "skews", "errs", "certify", "decide", "share", "owner", "doubt", "rods"}
}

// word returns what stands before the first blank.
func word(line string) string { return strings.Split(line, " ")[0] }

// pattern is all lines of a script.
var pattern = regexp.MustCompile(`\A(` + regexp.MustCompile(`[A-Z]`).ReplaceAllString(strings.Join(list(), "|"), `(0|-?[1-9][0-9]{0,5})`) + `)\z`)

// expected returns what should be answered to a line, and the bench after it, straight from the chapter.
func expected(b api.Bench, line string) (string, api.Bench) {
	if !pattern.MatchString(line) {
		return "?", b
	}
	var n []int
	for _, digits := range strings.Fields(line)[1:] {
		i, _ := strconv.Atoi(digits)
		n = append(n, i)
	}
	if slices.Contains(asking(), word(line)) {
		return asked(b, word(line), n), b
	}
	answer, after := "ok", copied(b)
	switch word(line) {
	case "walk":
		after.Walks = append(after.Walks, api.Walk{Sense: n[0], Side: n[1], Inside: n[2], Start: n[3], End: n[4]})
	case "clear":
		after.Walks = nil
	case "test":
		after.Trial.Tests = append(after.Trial.Tests, api.Test{Area: n[0], Walks: after.Walks})
		after.Walks = nil
	case "drop":
		if len(b.Trial.Tests) == 0 {
			return "no", b
		}
		after.Trial.Tests = after.Trial.Tests[:len(b.Trial.Tests)-1]
	case "field":
		after.Book.Fields = append(after.Book.Fields, api.Field{Id: n[0], Owner: n[1], Class: n[2]})
	case "measure":
		after.Book.Measures = append(after.Book.Measures, api.Measure{Field: n[0], Area: api.Span{Low: n[1], High: n[2]}})
	case "take":
		area, e := wheels.Bound(b.Trial.Wheel, b.Walks)
		if answer = numbers(e, area.Low, area.High); e != api.OK {
			return answer, b
		}
		after.Book.Measures = append(after.Book.Measures, api.Measure{Field: n[0], Area: area})
		after.Walks = nil
	}
	if bench.Check(after) != api.OK {
		return "no", b
	}
	return answer, after
}

// asked returns what should be answered to a line that only asks.
func asked(b api.Bench, word string, n []int) string {
	w := b.Trial.Wheel
	switch word {
	case "bound":
		s, e := wheels.Bound(w, b.Walks)
		return numbers(e, s.Low, s.High)
	case "strange":
		l, e := wheels.Strange(w, b.Walks)
		return numbers(e, l...)
	case "next":
		sense, side, e := wheels.Next(w, b.Walks)
		return numbers(e, sense, side)
	case "gains":
		l, e := trials.Gains(b.Trial)
		return numbers(e, l...)
	case "skews":
		l, e := trials.Skews(b.Trial)
		return numbers(e, l...)
	case "errs":
		s, e := trials.Errs(b.Trial, n[0])
		return numbers(e, s.Low, s.High)
	case "certify":
		known, e := trials.Certify(b.Trial, api.Class{Size: n[0], Most: n[1]})
		if e != api.OK {
			return numbers(e)
		}
		return map[int]string{api.Surely: "passed", api.Never: "failed", api.Perhaps: "open"}[known]
	case "decide":
		fewest, e := trials.Fewest(b.Trial, api.Class{Size: n[0], Most: n[1]})
		return numbers(e, fewest)
	case "share":
		s, e := rods.Share(b.Book, n[0])
		return numbers(e, s.Low, s.High)
	case "owner":
		s, e := rods.Owner(b.Book, n[0])
		return numbers(e, s.Low, s.High)
	case "doubt":
		d, e := rods.Doubt(b.Book)
		return numbers(e, d)
	}
	l, e := rods.Split(b.Book, n[0])
	return numbers(e, l...)
}

// numbers returns the answer with some numbers, or that of an error.
func numbers(e api.Errno, l ...int) string {
	answer := strings.Trim(fmt.Sprint(l), "[]")
	switch {
	case e == api.ErrNone, e == api.OK && answer == "":
		return "none"
	case e != api.OK:
		return "no"
	}
	return answer
}

// all returns what should be answered to all lines, and the bench after them.
func all(b api.Bench, script []string) ([]string, api.Bench) {
	answers := make([]string, len(script))
	for i, line := range script {
		answers[i], b = expected(b, line)
	}
	return answers, b
}

// isRefused returns whether an answer is one with which nothing changes.
func isRefused(answer string) bool { return slices.Contains([]string{"no", "none", "?"}, answer) }

// row is a sequence of numbers that follow no short rule.
type row struct{ state uint64 }

// from returns the next number, from low to high.
func (r *row) from(low, high int) int {
	r.state = r.state*6364136223846793005 + 1442695040888963407
	return low + int((r.state>>33)%uint64(high-low+1))
}

// pick returns one of some elements.
func pick[T any](r *row, l ...T) T { return l[r.from(0, len(l)-1)] }

// shuffle changes the order of a list.
func shuffle[T any](r *row, l []T) {
	for i := range l {
		j := r.from(i, len(l)-1)
		l[i], l[j] = l[j], l[i]
	}
}

// around returns two numbers from 0 on, at most so wide to both sides of a third one.
func (r *row) around(n, wide int) (low, high int) {
	return max(0, n-r.from(0, wide)), n + r.from(0, wide)
}

// room is where scripts are made: an instrument with a gain and a skew, a figure on the bench, of which the seen area is known, and fields.
type room struct {
	*row
	api.Bench
	gain, skew, seen int
}

// newRoom returns one with a valid bench, without tests, fields and walks.
func newRoom(r *row) *room {
	o := &room{row: r}
	w := &o.Trial.Wheel
	w.Full, w.Read, w.Slip, w.Skew = pick(r, 10, r.from(20, 100), 100, 250), pick(r, 0, 0, 1), pick(r, 0, 1, 2), r.from(0, 3)
	w.Circle, w.Wrong = pick(r, 0, r.from(0, 300)), pick(r, 0, 0, 0, 1, 2)
	w.Guess.Low, w.Guess.High = r.around(r.from(0, 400), 15)
	o.Trial.Gain = r.from(0, 6)
	o.gain, o.skew = r.from(-o.Trial.Gain, o.Trial.Gain), r.from(-w.Skew, w.Skew)
	for range r.from(1, 3) {
		o.Book.Units = append(o.Book.Units, r.from(2, 40))
	}
	for range r.from(1, 3) {
		o.Book.Rates = append(o.Book.Rates, r.from(0, 4))
	}
	o.Book.Levy = pick(r, 0, r.from(1, 30), r.from(31, 1000))
	o.figure()
	return o
}

// figure lays another figure on the bench; its area is most often one of Guess.
func (o *room) figure() {
	g := o.Trial.Wheel.Guess
	o.seen = pick(o.row, o.from(g.Low, g.High), o.from(g.Low, g.High), o.from(0, 9400))
}

// areaSeen returns an area that is seen as that of the figure, if there is one, or one nearly so.
func (o *room) areaSeen() int {
	area := max(0, o.seen*1000/(1000+o.gain)-2)
	for area < api.MaxFigure && area*(1000+o.gain)/1000 < o.seen {
		area++
	}
	return area
}

// walk returns the line of a walk that is right, but for a few.
func (o *room) walk() string {
	w := o.Trial.Wheel
	k := walk(pick(o.row, 1, -1), pick(o.row, 1, -1), pick(o.row, 0, 0, 1), o.from(0, w.Full-1), 0)
	shown := k.Sense*(o.seen-k.Inside*w.Circle-o.from(0, w.Slip)) + k.Side*o.skew + o.from(-2*w.Read, 2*w.Read)
	k.End = ((k.Start+shown)%w.Full + w.Full) % w.Full
	switch o.from(0, 24-4*w.Wrong) {
	case 0, 1:
		k.End = o.from(0, w.Full-1)
	case 2:
		k.Start = w.Full
	case 3:
		k.Sense = 0
	}
	return written(k)
}

// test returns the lines of a test of a new figure, and its walks.
func (o *room) test() []string {
	o.figure()
	lines := []string{"clear"}
	for range o.from(0, 3) {
		lines = append(lines, o.walk())
	}
	return append(lines, fmt.Sprint("test ", pick(o.row, o.areaSeen(), o.areaSeen(), o.areaSeen(), o.areaSeen(), o.from(0, 9000), o.from(9000, 9002), o.from(-2, 0))))
}

// id returns the Id of a field, or of what could be one.
func (o *room) id() int {
	if l := o.Book.Fields; len(l) > 0 && o.from(0, 9) > 0 {
		return l[o.from(0, len(l)-1)].Id
	}
	return pick(o.row, o.from(0, 12), o.from(97, 101), o.from(-2, 0))
}

// field returns the lines of a new field that is measured, most often.
func (o *room) field() []string {
	f := field(pick(o.row, o.from(0, 12), o.from(0, 99), o.from(98, 101)), pick(o.row, o.from(0, 2), o.from(0, 10)), o.from(0, len(o.Book.Rates)))
	o.Book.Fields = append(o.Book.Fields, f)
	lines := []string{written(f)}
	switch o.from(0, 4) {
	case 0, 1, 2:
		return append(lines, o.measure(f.Id))
	case 3:
		return append(lines, o.take(f.Id)...)
	}
	return lines
}

// measure returns the line of one that agrees with the other ones of its field, most often.
func (o *room) measure(id int) string {
	low, high := o.around(pick(o.row, id*7%31, id*7%31, id*7%31, o.from(0, 40)), 3)
	switch o.from(0, 19) {
	case 0:
		low, high = high, low
	case 1:
		high = pick(o.row, api.MaxAcre, api.MaxAcre+1)
	case 2:
		low = -low
	}
	return written(measure(id, low, high))
}

// take returns the lines of walks around a field, and of taking it.
func (o *room) take(id int) []string {
	o.figure()
	lines := []string{"clear"}
	for range o.from(0, 3) {
		lines = append(lines, o.walk())
	}
	return append(lines, fmt.Sprint("take ", id))
}

// ask returns a line that only asks.
func (o *room) ask() string {
	size, most := pick(o.row, o.from(0, 9000), 1000, 9000, 9001, -1), pick(o.row, 0, 0, o.from(0, 8), o.from(0, 8), o.from(0, 60), 9999, 10000, -1)
	line := pick(o.row, asking()...)
	switch line {
	case "errs":
		return fmt.Sprint(line, " ", size)
	case "certify", "decide":
		return fmt.Sprintf("%s %d %d", line, size, most)
	case "share":
		return fmt.Sprint(line, " ", o.id())
	case "owner":
		return fmt.Sprint(line, " ", o.from(-1, 10))
	case "rods":
		return fmt.Sprint(line, " ", pick(o.row, o.from(0, 2000), o.from(0, 999999), -o.from(1, 999999)))
	}
	return line
}

// lines returns a few lines of one kind.
func (o *room) lines() []string {
	switch o.from(0, 19) {
	case 0, 1, 2:
		return o.test()
	case 3, 4:
		return o.field()
	case 5:
		return []string{o.measure(o.id())}
	case 6:
		return o.take(o.id())
	case 7, 8, 9:
		return []string{o.walk()}
	case 10:
		return []string{pick(o.row, "drop", "clear", fmt.Sprint("test ", o.areaSeen()), fmt.Sprint("take ", o.id()))}
	case 11:
		return []string{pick(o.row, strange()...)}
	}
	return []string{o.ask()}
}

// script returns so many lines.
func (o *room) script(count int) []string {
	var l []string
	for len(l) < count {
		l = append(l, o.lines()...)
	}
	return l[:count]
}

// rooms calls a test with valid benches, and with a room in which scripts for them are made. The benches have come out of such scripts, if they are not without anything.
func rooms(t *testing.T, state uint64, times int, try func(o *room, b api.Bench)) {
	t.Helper()
	r := row{state: state}
	for range times {
		o := newRoom(&r)
		b := copied(o.Bench)
		if r.from(0, 1) == 0 {
			_, b = all(b, o.script(r.from(0, 30)))
		}
		try(o, b)
		if t.Failed() {
			return
		}
	}
}

// written returns the line that writes a walk, a field, a measure, or a test, whose walks are written before.
func written(what any) string {
	switch x := what.(type) {
	case api.Walk:
		return fmt.Sprintf("walk %d %d %d %d %d", x.Sense, x.Side, x.Inside, x.Start, x.End)
	case api.Field:
		return fmt.Sprintf("field %d %d %d", x.Id, x.Owner, x.Class)
	case api.Measure:
		return fmt.Sprintf("measure %d %d %d", x.Field, x.Area.Low, x.Area.High)
	}
	return fmt.Sprintf("test %d", what.(api.Test).Area)
}

// writes returns all lines that write a bench.
func writes(b api.Bench) []string {
	var l []string
	for _, test := range b.Trial.Tests {
		for _, k := range test.Walks {
			l = append(l, written(k))
		}
		l = append(l, written(test))
	}
	for _, f := range b.Book.Fields {
		l = append(l, written(f))
	}
	for _, m := range b.Book.Measures {
		l = append(l, written(m))
	}
	for _, k := range b.Walks {
		l = append(l, written(k))
	}
	return l
}

// bare returns a bench without what is written to it.
func bare(b api.Bench) api.Bench {
	b = copied(b)
	b.Trial.Tests, b.Book.Fields, b.Book.Measures, b.Walks = nil, nil, nil, nil
	return b
}

// runs returns what Run does of a script of any length, which is cut into pieces.
func runs(t *testing.T, b api.Bench, script []string) ([]string, api.Bench) {
	t.Helper()
	var answers []string
	for piece := range slices.Chunk(script, api.MaxScript) {
		var l []string
		l, b = run(t, b, piece...)
		answers = append(answers, l...)
	}
	return answers, b
}

// strange are lines that are none of a script.
func strange() []string {
	l := []string{
		"", " ", "  ", "?", "ok", "none", "walks", "wal", "Walk 1 1 0 10 62", "WALK 1 1 0 10 62", "bound\n", "\nbound", "bound\x00", "bound\t", "\tbound", "bound ", " bound", "bound  ", "  bound", "bound bound", "bound 0", "bound -", "bound clear", "clear 1",
		"walk", "walk ", "walk 1 1 0 10", "walk 1 1 0 10 ", "walk 1 1 0 10 62 ", " walk 1 1 0 10 62", "walk 1 1 0 10 62 5", "walk  1 1 0 10 62", "walk 1  1 0 10 62", "walk 1 1 0 10  62", "walk 1 1 0  62", "walk\t1 1 0 10 62", "walk 1\t1 0 10 62", "walk 1 1 0 10 62\n", "walk 1 1 0 10\n62", "walk,1,1,0,10,62", "walk1 1 0 10 62", "1 walk 1 0 10 62",
		"walk 1 1 0 10 6 2", "walk +1 1 0 10 62", "walk 1 1 -0 10 62", "walk 1 1 00 10 62", "walk 01 1 0 10 62", "walk 1 1 0 010 62", "walk 1 1 0 10 062", "walk 1 -01 0 10 62", "walk 1 --1 0 10 62", "walk 1 -1- 0 10 62", "walk 1 - 0 10 62", "walk 1 1.0 0 10 62", "walk 1 1 0 1e1 62", "walk 1 1 0 0x10 62", "walk 1 1 0 1_0 62", "walk 1 1 0 10 six",
		"rods -0", "rods 00", "rods 01", "rods 0000001", "rods 1000000", "rods -1000000", "rods 9999999", "rods 00000000000000000001", "rods 99999999999999999999", "rods -99999999999999999999", "rods 18446744073709551617", "rods ٣", "rods １", "rods \xff", "rods 1\xff", "rods -", "rods +", "rods +0", "rods -+1", "rods +-1", "rods ", "rods", "rods  1", "rods 1 1", "rods A", "rods 1,000", "rods 1.", "rods .1", "rods 0x", "rods 0b1", "rods 0o7", "rods 1e3", "rods 1\u00a01", "rods\u00a01", "rods\u20031", "roda 1", "rod 1", "rodss 1",
		"take", "take 1 2", "take x", "certify 1000", "certify 1000 4 4", "certify  1000 4", "certify 1000 04", "decide 1000", "decide", "field 7 1", "field 7 1 0 0", "measure 9 1", "measure 9 1 2 3", "measure 9 1-2", "share", "share 7 ", "share 7 7", "owner", "owner 1 1", "doubt 1", "gains 1", "skews -2", "errs", "errs 1 2", "test", "test 1 1", "drop 1", "drop drop", "next 1 1", "strange 0", "\xff\xfe", "wälk 1 1 0 10 62", "ｂound",
	}
	return append(l, strings.Repeat(" ", 100000), "walk"+strings.Repeat(" 1", 100000), "rods "+strings.Repeat("1", 100000), "rods "+strings.Repeat("-", 100000), strings.Repeat("bound", 20000))
}
