package parcels_test

import (
	"math"

	"knurl/api"
)

// pipes is a plat whose parcels are pipes from a node to another one: of its rows, its columns, and one more for what is in none.
type pipes struct {
	api.Plat
	areas, lack []int
}

func (f pipes) nodes() int { return len(f.Rows) + len(f.Cols) + 1 }

// ends returns the nodes of a parcel.
func (f pipes) ends(i int) (from, to int) {
	from, to = f.nodes()-1, f.nodes()-1
	if x := f.Parcels[i]; x.Row >= 0 {
		from = x.Row
	}
	if x := f.Parcels[i]; x.Col >= 0 {
		to = len(f.Rows) + x.Col
	}
	return from, to
}

// newPipes returns the pipes of a plat with the measured areas, and how much more has to leave each node.
func newPipes(p api.Plat) pipes {
	f := pipes{Plat: p, areas: measured(p)}
	f.lack = make([]int, f.nodes())
	for row, area := range p.Rows {
		f.lack[row] = area
		f.lack[f.nodes()-1] -= area
	}
	for col, area := range p.Cols {
		f.lack[len(p.Rows)+col] = -area
		f.lack[f.nodes()-1] += area
	}
	for i, area := range f.areas {
		f.add(i, area)
	}
	return f
}

// add counts that more runs through a pipe.
func (f pipes) add(i, more int) {
	from, to := f.ends(i)
	f.lack[from] -= more
	f.lack[to] += more
}

// room returns by how much an area can become greater (or less, if way is -1) at the same price for each unit, and the price.
func (f pipes) room(i, way int) (units, price int) {
	x, can := f.Parcels[i], allowed(f.Parcels[i])
	if left := way * (x.Area - f.areas[i]); left > 0 {
		return left, -1
	}
	if way > 0 {
		return can.High - f.areas[i], 1
	}
	return f.areas[i] - can.Low, 1
}

// leg is how a way comes to a node: through a parcel, which becomes greater or less, from another node.
type leg struct{ parcel, way, from int }

// cheapest returns the prices of the cheapest ways to all nodes from those that lack something, and the last leg of each (Bellman and Ford).
func (f pipes) cheapest() ([]int, []leg) {
	prices, legs := make([]int, f.nodes()), make([]leg, f.nodes())
	for node := range prices {
		prices[node], legs[node] = math.MaxInt, leg{parcel: -1}
		if f.lack[node] > 0 {
			prices[node] = 0
		}
	}
	for range prices {
		for i := range f.Parcels {
			from, to := f.ends(i)
			for _, way := range []int{1, -1} {
				units, price := f.room(i, way)
				if units > 0 && prices[from] < math.MaxInt && prices[from]+price < prices[to] {
					prices[to], legs[to] = prices[from]+price, leg{i, way, from}
				}
				from, to = to, from
			}
		}
	}
	return prices, legs
}

// carried returns an adjustment with the least sum of changes, and whether there is any. As much as can be is carried along the cheapest way from a node that lacks something to one that has too much, again and again.
func carried(p api.Plat) ([]int, bool) {
	f := newPipes(p)
	for {
		prices, legs := f.cheapest()
		to := -1
		for node, price := range prices {
			if f.lack[node] < 0 && price < math.MaxInt && (to < 0 || price < prices[to]) {
				to = node
			}
		}
		if to < 0 {
			break
		}
		units, node := -f.lack[to], to
		for ; legs[node].parcel >= 0; node = legs[node].from {
			room, _ := f.room(legs[node].parcel, legs[node].way)
			units = min(units, room)
		}
		units = min(units, f.lack[node])
		for node = to; legs[node].parcel >= 0; node = legs[node].from {
			f.areas[legs[node].parcel] += units * legs[node].way
			f.add(legs[node].parcel, units*legs[node].way)
		}
	}
	for _, lack := range f.lack {
		if lack != 0 {
			return nil, false
		}
	}
	return f.areas, true
}

// carries returns whether there is an adjustment if parcels are changed.
func carries(p api.Plat, change func(i int, x *api.Parcel)) bool {
	p = copied(p)
	for i := range p.Parcels {
		change(i, &p.Parcels[i])
	}
	_, ok := carried(p)
	return ok
}

// first returns the first number from low on for which something is so, or the one behind high. If it is so for a number, it is for all greater ones.
func first(low, high int, isSo func(n int) bool) int {
	for low <= high {
		middle := low + (high-low)/2
		if isSo(middle) {
			high = middle - 1
		} else {
			low = middle + 1
		}
	}
	return low
}

// flowed works out what is known by carrying.
func flowed(p api.Plat) known {
	areas, ok := carried(p)
	if !ok {
		return known{}
	}
	k := known{many: 1, least: total(p, areas), few: len(p.Parcels)}
	k.worst = first(0, api.MaxOff, func(n int) bool {
		return carries(p, func(_ int, x *api.Parcel) { x.Off = min(x.Off, n) })
	})
	for changed := range 1 << len(p.Parcels) {
		few := 0
		for i := range p.Parcels {
			few += changed >> i & 1
		}
		if few < k.few && carries(p, func(i int, x *api.Parcel) { x.Off *= changed >> i & 1 }) {
			k.few = few
		}
	}
	for i, x := range p.Parcels {
		can := allowed(x)
		has := func(n int) bool {
			return carries(p, func(j int, x *api.Parcel) {
				if j == i {
					x.Area, x.Off = n, 0
				}
			})
		}
		low := first(can.Low, areas[i], has)
		high := first(areas[i], can.High, func(n int) bool { return !has(n) }) - 1
		k.ranges = append(k.ranges, span(low, high))
	}
	return k
}
