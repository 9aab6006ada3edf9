package trials

import (
	"math"

	"knurl/api"
	"knurl/wheels"
)

// thousand is the parts of an area that a gain is counted in.
const thousand = 1000

// truth is a gain and a skew.
type truth struct{ gain, skew int }

// seen returns the seen area of an area.
func (x truth) seen(area int) int {
	// This is never below 0, since a gain is above -1000, so that the division rounds down.
	return area * (thousand + x.gain) / thousand
}

// err returns the error at an area.
func (x truth) err(area int) int {
	return withoutSign(x.seen(area)-area) + withoutSign(x.skew)
}

// file is a valid trial, and for each test what it alone allows.
type file struct {
	api.Trial
	allowed []map[truth]bool
}

// open returns the file of a trial, or the first error: ErrArg unless what is asked for is valid, and ErrNone if there is no truth.
func open(t api.Trial, valid bool) (file, api.Errno) {
	if e := Check(t); e != api.OK {
		return file{}, e
	}
	if !valid {
		return file{}, api.ErrArg
	}
	f := file{Trial: t}
	for _, test := range t.Tests {
		f.allowed = append(f.allowed, f.allows(test))
	}
	for range f.truths {
		return f, api.OK
	}
	return file{}, api.ErrNone
}

// allows returns all that a test alone allows.
func (f file) allows(test api.Test) map[truth]bool {
	found := map[truth]bool{}
	for gain := -f.Gain; gain <= f.Gain; gain++ {
		seen := truth{gain: gain}.seen(test.Area)
		w := f.Wheel
		w.Guess = api.Span{Low: seen, High: seen}
		// With ErrNone there are no skews.
		skews, _ := wheels.Skews(w, test.Walks)
		for _, skew := range skews {
			found[truth{gain: gain, skew: skew}] = true
		}
	}
	return found
}

// just returns the file with some of the tests alone.
func (f file) just(s set) file {
	j := f
	j.Tests, j.allowed = nil, nil
	for _, i := range s.list() {
		j.Tests, j.allowed = append(j.Tests, f.Tests[i]), append(j.allowed, f.allowed[i])
	}
	return j
}

// cases yields each gain with each skew, both ascending, whatever the tests are.
func (f file) cases(yield func(truth) bool) {
	for gain := -f.Gain; gain <= f.Gain; gain++ {
		for skew := -f.Wheel.Skew; skew <= f.Wheel.Skew; skew++ {
			if !yield(truth{gain: gain, skew: skew}) {
				return
			}
		}
	}
}

// truths yields all truths.
func (f file) truths(yield func(truth) bool) {
cases:
	for x := range f.cases {
		for _, allowed := range f.allowed {
			if !allowed[x] {
				continue cases
			}
		}
		if !yield(x) {
			return
		}
	}
}

// bounds returns the least and the greatest of what is asked of all truths.
func (f file) bounds(ask func(truth) int) api.Span {
	s := api.Span{Low: math.MaxInt, High: math.MinInt}
	for x := range f.truths {
		n := ask(x)
		s.Low, s.High = min(s.Low, n), max(s.High, n)
	}
	return s
}

// certify returns whether an instrument is within a class.
func (f file) certify(c api.Class) int {
	errs := f.bounds(func(x truth) int { return x.err(c.Size) })
	switch {
	case errs.High <= c.Most:
		return api.Surely
	case errs.Low > c.Most:
		return api.Never
	}
	return api.Perhaps
}

// withoutSign returns how far a number is from 0.
func withoutSign(n int) int {
	return max(n, -n)
}
