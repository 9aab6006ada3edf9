package discord

import "knurl/api"

// Whole fields could be left to corners.Check; but there can be 25 to the power of 6 of them, so that sides are looked at here, as soon as they are placed.

// turn returns the doubled area of a triangle: above 0 if c is to the left of the line from a to b, 0 if it is on this line.
func turn(a, b, c api.Point) int {
	return (b.X-a.X)*(c.Y-a.Y) - (b.Y-a.Y)*(c.X-a.X)
}

// folds returns whether the sides from a to b and from b to c have more in common than b, or no length.
func folds(a, b, c api.Point) bool {
	return turn(a, b, c) == 0 && (a.X-b.X)*(c.X-b.X)+(a.Y-b.Y)*(c.Y-b.Y) >= 0
}

// meets returns whether the side from a to b has a point in common with a side from one corner to the next one.
func meets(a, b api.Point, corners ...api.Point) bool {
	for i := 1; i < len(corners); i++ {
		if touch(a, b, corners[i-1], corners[i]) {
			return true
		}
	}
	return false
}

// touch returns whether the sides from a to b and from c to d have a point in common: neither lies beside the line of the other one, and, if both lie on one line, they overlap.
func touch(a, b, c, d api.Point) bool {
	return overlap(a.X, b.X, c.X, d.X) && overlap(a.Y, b.Y, c.Y, d.Y) &&
		!beside(turn(a, b, c), turn(a, b, d)) && !beside(turn(c, d, a), turn(c, d, b))
}

// overlap returns whether what lies between a and b and what lies between c and d have a number in common.
func overlap(a, b, c, d int) bool {
	return min(a, b) <= max(c, d) && min(c, d) <= max(a, b)
}

// beside returns whether both turns are to the left, or both to the right.
func beside(a, b int) bool {
	return a > 0 && b > 0 || a < 0 && b < 0
}
