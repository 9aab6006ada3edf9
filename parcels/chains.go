package parcels

import (
	"math/bits"

	"knurl/api"
)

// set is some numbers of strips, or of parcels: the bit of each one is 1.
type set int

// sets returns how many sets there are of so many numbers. They are counted from 0, which is the empty one.
func sets(numbers int) set {
	return 1 << numbers
}

// has returns 1 if a number is in the set, and 0 otherwise. The number -1 is in no set.
func (s set) has(number int) int {
	if number < 0 {
		return 0
	}
	return int(s >> number & 1)
}

// list returns all numbers of the set, ascending.
func (s set) list() []int {
	var l []int
	for number := range bits.Len(uint(s)) {
		if s.has(number) == 1 {
			l = append(l, number)
		}
	}
	return l
}

// of returns the sum of those numbers of a list whose places are in the set.
func (s set) of(l []int) int {
	sum := 0
	for place, number := range l {
		sum += s.has(place) * number
	}
	return sum
}

// chain is some rows and some columns.
type chain struct{ rows, cols set }

// sign returns 1 if the chain gives a parcel, -1 if it takes it, and 0 otherwise.
func (c chain) sign(p api.Parcel) int {
	return c.rows.has(p.Row) - c.cols.has(p.Col)
}

// chains yields all chains, and no strips at all, which prove nothing.
func (n net) chains(yield func(chain) bool) {
	for rows := range sets(len(n.Rows)) {
		for cols := range sets(len(n.Cols)) {
			if !yield(chain{rows: rows, cols: cols}) {
				return
			}
		}
	}
}

// proof returns a chain that proves that there is no adjustment, if one does. Areas run from rows to columns as water runs through pipes, so that one does unless there is an adjustment in whole numbers (Hoffman's theorem on circulations).
func (n net) proof() (chain, bool) {
	for c := range n.chains {
		if s := n.sums(c); !within(n.surplus(c), s.Low, s.High) {
			return c, true
		}
	}
	return chain{}, false
}

// surplus returns the sum of the areas of a chain's rows, less that of its columns.
func (n net) surplus(c chain) int {
	return c.rows.of(n.Rows) - c.cols.of(n.Cols)
}

// sums returns the least and the greatest sum of all that a chain gives, less that of all that it takes.
func (n net) sums(c chain) api.Span {
	var s api.Span
	for _, p := range n.Parcels {
		switch c.sign(p) {
		case 1:
			s.Low += least(p)
			s.High += greatest(p)
		case -1:
			s.Low -= greatest(p)
			s.High -= least(p)
		}
	}
	return s
}

// span returns the least and the greatest area of a parcel in an adjustment, if there is one. What a chain proves of the parcel follows from its surplus, and from what all others can be. A chain that neither gives nor takes the parcel proves nothing of it.
func (n net) span(parcel int) api.Span {
	p := n.Parcels[parcel]
	others := n.settled(parcel, 0)
	span := api.Span{Low: least(p), High: greatest(p)}
	for c := range n.chains {
		surplus, s := n.surplus(c), others.sums(c)
		switch c.sign(p) {
		case 1:
			span.Low = max(span.Low, surplus-s.High)
			span.High = min(span.High, surplus-s.Low)
		case -1:
			span.Low = max(span.Low, s.Low-surplus)
			span.High = min(span.High, s.High-surplus)
		}
	}
	return span
}
