package coasts

import (
	"slices"

	"knurl/api"
)

// chart is a valid coast. For each pair of dividers it may know what each opening of its span costs: how many reports of this pair are not right with it.
type chart struct {
	api.Coast
	costs []map[int]int
}

// drawn returns the chart of a valid coast, with all costs.
func drawn(c api.Coast) chart {
	k := chart{Coast: c}
	for divider, span := range k.Dividers {
		costs := map[int]int{}
		for opening := span.Low; opening <= span.High; opening++ {
			costs[opening] = k.cost(divider, opening)
		}
		k.costs = append(k.costs, costs)
	}
	return k
}

// cost returns how many reports of a pair of dividers are not right with an opening.
func (k chart) cost(divider, opening int) int {
	n := 0
	for _, r := range k.Reports {
		if r.Divider == divider && !k.right(r, opening) {
			n++
		}
	}
	return n
}

// right returns whether a report is right with an opening.
func (k chart) right(r api.Report, opening int) bool {
	return slices.Contains(k.counts(opening, r.From, r.To), r.Steps)
}

// least returns the least number of reports that are not right, of all pairs of dividers but those that are left out. What one pair costs does not depend on the openings of the others.
func (k chart) least(left ...int) int {
	sum := 0
dividers:
	for divider, costs := range k.costs {
		for _, out := range left {
			if divider == out {
				continue dividers
			}
		}
		least := len(k.Reports)
		for _, cost := range costs {
			least = min(least, cost)
		}
		sum += least
	}
	return sum
}

// many returns the number of truths.
func (k chart) many() int {
	// In how many ways the openings so far can cost so much. All truths one by one would be up to 60 to the power of 4.
	ways := map[int]int{0: 1}
	for _, costs := range k.costs {
		next := map[int]int{}
		for _, cost := range costs {
			for before, n := range ways {
				next[before+cost] += n
			}
		}
		ways = next
	}
	many := 0
	for cost, n := range ways {
		if cost <= k.Wrong {
			many += n
		}
	}
	return many
}

// openings returns all openings that a pair of dividers has in some truth, ascending.
func (k chart) openings(divider int) []int {
	others := k.least(divider)
	var l []int
	for opening, cost := range k.costs[divider] {
		if cost+others <= k.Wrong {
			l = append(l, opening)
		}
	}
	slices.Sort(l)
	return l
}

// strange returns all reports that are right in no truth, ascending.
func (k chart) strange() []int {
	var l []int
reports:
	for i, r := range k.Reports {
		for _, opening := range k.openings(r.Divider) {
			if k.right(r, opening) {
				continue reports
			}
		}
		l = append(l, i)
	}
	return l
}

// longer returns whether the length that the opening of one pair of dividers gives is greater than that of another one. There is a truth.
func (k chart) longer(a, b int) int {
	if a == b {
		return api.Never
	}
	others := k.least(a, b)
	greater, not := false, false
	for opening, cost := range k.costs[a] {
		for other, more := range k.costs[b] {
			if cost+more+others > k.Wrong {
				continue
			}
			if k.greater(opening, other) {
				greater = true
			} else {
				not = true
			}
		}
	}
	switch {
	case !not:
		return api.Surely
	case !greater:
		return api.Never
	}
	return api.Perhaps
}
