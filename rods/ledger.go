package rods

import (
	"cmp"
	"slices"

	"knurl/api"
)

// ledger is a valid book that was opened: its fields are sorted by their Ids, and for each of them the areas are known that are in all its measures. If there is none, Low is greater than High.
type ledger struct {
	api.RodBook
	areas []api.Span
}

// opened returns the ledger of a valid book.
func opened(b api.RodBook) ledger {
	l := ledger{RodBook: b}
	l.Fields = slices.SortedFunc(slices.Values(b.Fields), func(f, g api.Field) int { return cmp.Compare(f.Id, g.Id) })
	for _, f := range l.Fields {
		l.areas = append(l.areas, l.area(f.Id))
	}
	return l
}

// area returns the areas of a field that are in all its measures.
func (l ledger) area(field int) api.Span {
	s := api.Span{High: api.MaxAcre}
	for _, m := range l.Measures {
		if m.Field == field {
			s.Low, s.High = max(s.Low, m.Area.Low), min(s.High, m.Area.High)
		}
	}
	return s
}

// clash returns the Ids of all fields without an area, ascending.
func (l ledger) clash() []int {
	var ids []int
	for i, area := range l.areas {
		if area.Low > area.High {
			ids = append(ids, l.Fields[i].Id)
		}
	}
	return ids
}

// many returns the number of truths, but if there are more than MaxTruths just one more: all of them can be more than an int holds. Each field has an area.
func (l ledger) many() int {
	n := 1
	for _, area := range l.areas {
		n = min(n*(area.High-area.Low+1), api.MaxTruths+1)
	}
	return n
}

// truths yields the areas of all fields in each truth.
func (l ledger) truths(yield func(areas []int) bool) {
	var fill func(areas ...int) bool
	fill = func(areas ...int) bool {
		n := len(areas)
		if n == len(l.areas) {
			return yield(areas)
		}
		for area := l.areas[n].Low; area <= l.areas[n].High; area++ {
			// Each longer list is new memory, so that a truth does not change when the next one is filled in.
			if !fill(append(areas[:n:n], area)...) {
				return false
			}
		}
		return true
	}
	fill()
}

// weight returns the weight of a field, by its place in the ledger, with an area.
func (l ledger) weight(i, area int) int {
	return area * l.Rates[l.Fields[i].Class]
}

// paid returns what each field pays in a truth.
func (l ledger) paid(areas []int) []int {
	sum := 0
	for i, area := range areas {
		sum += l.weight(i, area)
	}
	paid := make([]int, len(areas))
	if sum == 0 {
		return paid
	}
	left := l.Levy
	rests := make([]int, len(areas))
	for i, area := range areas {
		part := l.Levy * l.weight(i, area)
		paid[i], rests[i] = part/sum, part%sum
		left -= paid[i]
	}
	for range left {
		// Of equal rests this is the first one, and the fields are sorted by their Ids. Fewer pennies are left than there are rests above 0.
		i := slices.Index(rests, slices.Max(rests))
		paid[i]++
		rests[i] = 0
	}
	return paid
}
