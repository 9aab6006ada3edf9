package corners

import "knurl/api"

// First returns six times the first moments.
func First(p []api.Point) (x, y int, e api.Errno) {
	if e := Check(p); e != api.OK {
		return 0, 0, e
	}
	x = total(p, func(s side) int { return s.fan() * (s.from.X + s.to.X) })
	y = total(p, func(s side) int { return s.fan() * (s.from.Y + s.to.Y) })
	return x, y, api.OK
}

// Second returns 12 times the second moments of x * x and of y * y, and 24 times that of x * y.
func Second(p []api.Point) (xx, xy, yy int, e api.Errno) {
	if e := Check(p); e != api.OK {
		return 0, 0, 0, e
	}
	xx = total(p, func(s side) int {
		a, b := s.from.X, s.to.X
		return s.fan() * (a*a + a*b + b*b)
	})
	xy = total(p, func(s side) int {
		a, b := s.from, s.to
		return s.fan() * (2*a.X*a.Y + a.X*b.Y + b.X*a.Y + 2*b.X*b.Y)
	})
	yy = total(p, func(s side) int {
		a, b := s.from.Y, s.to.Y
		return s.fan() * (a*a + a*b + b*b)
	})
	return xx, xy, yy, api.OK
}

// Centre returns the first moments divided by the area.
func Centre(p []api.Point) (x, y api.Ratio, e api.Errno) {
	sixX, sixY, e := First(p)
	if e != api.OK {
		return api.Ratio{}, api.Ratio{}, e
	}
	sixAreas := 3 * doubled(p)
	return fraction(sixX, sixAreas), fraction(sixY, sixAreas), api.OK
}

// fraction returns num divided by den, which is not 0, in lowest terms, with a Den above 0. Its Num can be greater than that of a valid ratio of layer 1.
func fraction(num, den int) api.Ratio {
	by := divisor(num, den)
	if den < 0 {
		by = -by
	}
	return api.Ratio{Num: num / by, Den: den / by}
}

// divisor returns the greatest number that divides both a and b, whatever their signs are.
func divisor(a, b int) int {
	for b != 0 {
		a, b = b, a%b
	}
	return withoutSign(a)
}

// withoutSign returns how far a number is from 0.
func withoutSign(n int) int {
	return max(n, -n)
}
