package sheets

import "knurl/api"

// factors says how many units of each direction 1000 have become.
type factors struct{ across, along int }

// of returns the factor of a direction.
func (f factors) of(way int) int {
	if way == api.Across {
		return f.across
	}
	return f.along
}

// fit returns whether a control is right.
func (f factors) fit(c api.Control) bool {
	return distance(c.True*f.of(c.Way), whole*c.Read) <= whole*c.Off
}

// area returns the true area of what has an area now, with any sign.
func (f factors) area(now int) (num, den int) {
	return distance(now, 0) * whole * whole, f.across * f.along
}

// square returns the square of the true length of a line that now goes so far in each direction.
func (f factors) square(x, y int) (num, den int) {
	across, along := f.across*f.across, f.along*f.along
	return (x*x*along + y*y*across) * whole * whole, across * along
}

// distance returns how far two numbers are apart.
func distance(a, b int) int {
	return max(a-b, b-a)
}
