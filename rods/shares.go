package rods

import "knurl/api"

// shares are the least and the greatest number of pennies that each of some payers pays.
type shares []api.Span

// unpaid returns the shares of so many payers before any payment is noted: nobody pays more than the levy, or less than nothing.
func (l ledger) unpaid(payers int) shares {
	s := make(shares, payers)
	for i := range s {
		s[i].Low = l.Levy
	}
	return s
}

// note adds what each payer pays in one more truth.
func (s shares) note(paid ...int) {
	for i, pennies := range paid {
		s[i].Low, s[i].High = min(s[i].Low, pennies), max(s[i].High, pennies)
	}
}

// doubt returns by how much the payments differ, together.
func (s shares) doubt() int {
	sum := 0
	for _, share := range s {
		sum += share.High - share.Low
	}
	return sum
}

// shares returns those of all fields.
func (l ledger) shares() shares {
	s := l.unpaid(len(l.Fields))
	for areas := range l.truths {
		s.note(l.paid(areas)...)
	}
	return s
}

// together returns what all fields of which something is so pay together.
func (l ledger) together(is func(f api.Field) bool) api.Span {
	s := l.unpaid(1)
	for areas := range l.truths {
		sum := 0
		for i, pennies := range l.paid(areas) {
			if is(l.Fields[i]) {
				sum += pennies
			}
		}
		s.note(sum)
	}
	return s[0]
}

// sure returns the Ids of all fields that pay the same in each truth, ascending.
func (l ledger) sure() []int {
	var ids []int
	for i, share := range l.shares() {
		if share.Low == share.High {
			ids = append(ids, l.Fields[i].Id)
		}
	}
	return ids
}

// next returns the Id of the field that should be measured next, and whether there is one.
func (l ledger) next() (id int, is bool) {
	least := 0
	for i, worst := range l.worst() {
		if l.areas[i].Low < l.areas[i].High && (!is || worst < least) {
			id, is, least = l.Fields[i].Id, true, worst
		}
	}
	return id, is
}

// worst returns for each field the greatest doubt that there can be if one of its areas was measured exactly.
func (l ledger) worst() []int {
	// For each field, by each of its areas, the shares of all fields in the truths with this area. With a copy of the book for each area all truths would be gone through once for each field.
	known := make([]map[int]shares, len(l.Fields))
	for i, area := range l.areas {
		known[i] = map[int]shares{}
		for exact := area.Low; exact <= area.High; exact++ {
			known[i][exact] = l.unpaid(len(l.Fields))
		}
	}
	for areas := range l.truths {
		paid := l.paid(areas)
		for i, area := range areas {
			known[i][area].note(paid...)
		}
	}
	worst := make([]int, len(l.Fields))
	for i, exact := range known {
		for _, s := range exact {
			worst[i] = max(worst[i], s.doubt())
		}
	}
	return worst
}
