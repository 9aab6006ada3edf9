package curves

import (
	"iter"

	"knurl/api"
)

// pen draws a valid curve from left to right. For each height at each place it knows the least number of knots behind this place that are not right; behind the last place there are none.
type pen struct {
	api.Curve
	ahead []map[int]int
}

// newPen returns the pen of a curve, or ErrCurve unless this is valid.
func newPen(c api.Curve) (pen, api.Errno) {
	if e := Check(c); e != api.OK {
		return pen{}, e
	}
	p := pen{Curve: c, ahead: make([]map[int]int, c.Long+1)}
	for place := c.Long - 1; place >= 0; place-- {
		p.ahead[place] = map[int]int{}
		for height := range p.heights {
			p.ahead[place][height] = p.least(place+1, p.near(height))
		}
	}
	return p, api.OK
}

// least returns the least number of knots that are not right from a place on, of all heights there that are yielded.
func (p pen) least(place int, heights iter.Seq[int]) int {
	few := len(p.Knots)
	for height := range heights {
		few = min(few, p.missed(place, height)+p.ahead[place][height])
	}
	return few
}

// fewest returns the least number of knots that are not right.
func (p pen) fewest() int {
	return p.least(0, p.heights)
}

// missed returns how many knots at a place are not right with a height there.
func (p pen) missed(place, height int) int {
	n := 0
	for _, k := range p.Knots {
		if k.At == place && !within(height, k.Height.Low, k.Height.High) {
			n++
		}
	}
	return n
}

// heights yields all heights that there can be.
func (p pen) heights(yield func(int) bool) {
	for height := p.Range.Low; height <= p.Range.High; height++ {
		if !yield(height) {
			return
		}
	}
}

// near yields all heights that there can be beside a height.
func (p pen) near(height int) iter.Seq[int] {
	p.Range.Low = max(p.Range.Low, height-p.Slope)
	p.Range.High = min(p.Range.High, height+p.Slope)
	return p.heights
}

// mirrored returns the curve from its end to its beginning.
func (p pen) mirrored() api.Curve {
	c := p.Curve
	c.Knots = nil
	for _, k := range p.Knots {
		c.Knots = append(c.Knots, api.Knot{At: c.Long - k.At, Height: k.Height})
	}
	return c
}
