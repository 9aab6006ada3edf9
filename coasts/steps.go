package coasts

import (
	"iter"
	"slices"

	"knurl/api"
)

// noLength is less than each length: a walk has a step, and an opening is at least 1.
const noLength = 0

// counts returns all numbers of steps of walks with an opening between two bends, ascending.
func (k chart) counts(opening, from, to int) []int {
	// For each bend the bit n is set if there is a walk to it with n steps.
	var walked [api.MaxBends]uint
	walked[from] = 1
	for bend, next := range k.steps(opening, from, to) {
		walked[next] |= walked[bend] << 1
	}
	var l []int
	for n := range api.MaxBends {
		if walked[to]>>n&1 == 1 {
			l = append(l, n)
		}
	}
	return l
}

// walk returns a walk with an opening between two bends that has as few steps as can be, or nil.
func (k chart) walk(opening, from, to int) []int {
	var best [api.MaxBends][]int
	best[from] = []int{from}
	for bend, next := range k.steps(opening, from, to) {
		if best[bend] != nil && (best[next] == nil || len(best[bend])+1 < len(best[next])) {
			best[next] = append(slices.Clone(best[bend]), next)
		}
	}
	return best[to]
}

// steps yields each step that an opening can make between two bends, first those to the bend that comes first: what is known of a bend when a step from it is yielded does not change any more.
func (k chart) steps(opening, from, to int) iter.Seq2[int, int] {
	return func(yield func(bend, next int) bool) {
		for next := from + 1; next <= to; next++ {
			for bend := from; bend < next; bend++ {
				if k.reaches(opening, bend, next) && !yield(bend, next) {
					return
				}
			}
		}
	}
}

// reaches returns whether an opening reaches from one bend to another one.
func (k chart) reaches(opening, a, b int) bool {
	x, y := k.Bends[b].X-k.Bends[a].X, k.Bends[b].Y-k.Bends[a].Y
	return x*x+y*y <= opening*opening
}

// length returns the length of the whole coast that an opening gives, or noLength.
func (k chart) length(opening int) int {
	l := k.counts(opening, 0, len(k.Bends)-1)
	if len(l) == 0 {
		return noLength
	}
	return l[0] * opening
}

// greater returns whether the length that an opening gives is greater than that of another one.
func (k chart) greater(opening, other int) bool {
	a, b := k.length(opening), k.length(other)
	return b != noLength && a > b
}
