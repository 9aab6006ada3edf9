package bench

import (
	"slices"
	"strconv"
	"strings"

	"knurl/api"
	"knurl/rods"
	"knurl/trials"
	"knurl/wheels"
)

// Answers that are words.
const (
	done    = "ok"
	refused = "no"
	nothing = "none"
)

// desk is where lines are answered: a valid bench whose memory is its own, and the rows that it knows.
type desk struct {
	api.Bench
	rows map[string]row
}

func (d *desk) walk(n []int) string {
	b := d.Bench
	b.Walks = append(b.Walks, api.Walk{Sense: n[0], Side: n[1], Inside: n[2], Start: n[3], End: n[4]})
	return d.become(b, done)
}

func (d *desk) clear([]int) string {
	d.Walks = nil
	return done
}

func (d *desk) bound([]int) string {
	return span(wheels.Bound(d.Trial.Wheel, d.Walks))
}

func (d *desk) strange([]int) string {
	return list(wheels.Strange(d.Trial.Wheel, d.Walks))
}

func (d *desk) next([]int) string {
	sense, side, e := wheels.Next(d.Trial.Wheel, d.Walks)
	return said(e, sense, side)
}

func (d *desk) test(n []int) string {
	b := d.Bench
	b.Trial.Tests = append(b.Trial.Tests, api.Test{Area: n[0], Walks: b.Walks})
	// The test has the memory of the walks now, so that the next ones must not be put there.
	b.Walks = nil
	return d.become(b, done)
}

func (d *desk) drop([]int) string {
	last := len(d.Trial.Tests) - 1
	if last < 0 {
		return refused
	}
	d.Trial.Tests = d.Trial.Tests[:last]
	return done
}

func (d *desk) gains([]int) string {
	return list(trials.Gains(d.Trial))
}

func (d *desk) skews([]int) string {
	return list(trials.Skews(d.Trial))
}

func (d *desk) errs(n []int) string {
	return span(trials.Errs(d.Trial, n[0]))
}

func (d *desk) certify(n []int) string {
	known, e := trials.Certify(d.Trial, api.Class{Size: n[0], Most: n[1]})
	switch {
	case e != api.OK:
		return said(e)
	case known == api.Surely:
		return "passed"
	case known == api.Never:
		return "failed"
	}
	return "open"
}

func (d *desk) decide(n []int) string {
	return one(trials.Fewest(d.Trial, api.Class{Size: n[0], Most: n[1]}))
}

func (d *desk) field(n []int) string {
	b := d.Bench
	b.Book.Fields = append(b.Book.Fields, api.Field{Id: n[0], Owner: n[1], Class: n[2]})
	return d.become(b, done)
}

func (d *desk) measure(n []int) string {
	return d.become(d.measured(n[0], api.Span{Low: n[1], High: n[2]}), done)
}

func (d *desk) take(n []int) string {
	area, e := wheels.Bound(d.Trial.Wheel, d.Walks)
	if e != api.OK {
		return said(e)
	}
	b := d.measured(n[0], area)
	b.Walks = nil
	return d.become(b, span(area, e))
}

func (d *desk) share(n []int) string {
	return span(rods.Share(d.Book, n[0]))
}

func (d *desk) owner(n []int) string {
	return span(rods.Owner(d.Book, n[0]))
}

func (d *desk) doubt([]int) string {
	return one(rods.Doubt(d.Book))
}

func (d *desk) split(n []int) string {
	return list(rods.Split(d.Book, n[0]))
}

// become puts a bench in place of the one that there is and returns the answer, unless the bench is not valid.
func (d *desk) become(b api.Bench, answer string) string {
	if Check(b) != api.OK {
		return refused
	}
	d.Bench = b
	return answer
}

// measured returns the bench with one measure more.
func (d *desk) measured(field int, area api.Span) api.Bench {
	b := d.Bench
	b.Book.Measures = append(b.Book.Measures, api.Measure{Field: field, Area: area})
	return b
}

// said returns the answer with the numbers that a function returned, or with its error.
func said(e api.Errno, numbers ...int) string {
	if e != api.OK && e != api.ErrNone {
		return refused
	}
	if e == api.ErrNone || len(numbers) == 0 {
		return nothing
	}
	var words []string
	for _, n := range numbers {
		words = append(words, strconv.Itoa(n))
	}
	return strings.Join(words, " ")
}

func one(n int, e api.Errno) string {
	return said(e, n)
}

func span(s api.Span, e api.Errno) string {
	return said(e, s.Low, s.High)
}

func list(l []int, e api.Errno) string {
	return said(e, l...)
}

// copied returns a bench that shares no memory.
func copied(b api.Bench) api.Bench {
	b.Trial.Tests = slices.Clone(b.Trial.Tests)
	for i, test := range b.Trial.Tests {
		b.Trial.Tests[i].Walks = slices.Clone(test.Walks)
	}
	b.Book.Units, b.Book.Rates = slices.Clone(b.Book.Units), slices.Clone(b.Book.Rates)
	b.Book.Fields, b.Book.Measures = slices.Clone(b.Book.Fields), slices.Clone(b.Book.Measures)
	b.Walks = slices.Clone(b.Walks)
	return b
}
