// Package arms is layer 1: exact ratios, and the settings of arms. See shared/doc/01-arms.md.
package arms

import (
	"cmp"

	"knurl/api"
)

// Reduce returns the reduced ratio that is equal to a ratio.
func Reduce(r api.Ratio) (api.Ratio, api.Errno) {
	if e := checkRatios(r); e != api.OK {
		return api.Ratio{}, e
	}
	return reduced(r.Num, r.Den)
}

// Add returns the sum of two ratios.
func Add(a, b api.Ratio) (api.Ratio, api.Errno) {
	return ofTwo(a, b, func() (api.Ratio, api.Errno) {
		return reduced(a.Num*b.Den+b.Num*a.Den, a.Den*b.Den)
	})
}

// Mul returns the product of two ratios.
func Mul(a, b api.Ratio) (api.Ratio, api.Errno) {
	return ofTwo(a, b, func() (api.Ratio, api.Errno) {
		return reduced(a.Num*b.Num, a.Den*b.Den)
	})
}

// Compare returns whether a ratio is less than another one (-1), equal (0), or greater (1).
func Compare(a, b api.Ratio) (int, api.Errno) {
	return ofTwo(a, b, func() (int, api.Errno) {
		return cmp.Compare(a.Num*b.Den, b.Num*a.Den), api.OK
	})
}

// ofTwo returns what follows from two ratios, if both are valid.
func ofTwo[T any](a, b api.Ratio, follows func() (T, api.Errno)) (T, api.Errno) {
	if e := checkRatios(a, b); e != api.OK {
		var none T
		return none, e
	}
	return follows()
}

// checkRatios returns ErrRatio unless all ratios are valid.
func checkRatios(l ...api.Ratio) api.Errno {
	for _, r := range l {
		if !validRatio(r) {
			return api.ErrRatio
		}
	}
	return api.OK
}

func validRatio(r api.Ratio) bool {
	return r.Den >= 1 && r.Den <= api.MaxTerm && r.Num >= -api.MaxTerm && r.Num <= api.MaxTerm
}

// reduced returns num divided by den as a reduced ratio, or ErrMany if this is not valid. The den is above 0; both can be greater than those of a valid ratio.
func reduced(num, den int) (api.Ratio, api.Errno) {
	by := divisor(withoutSign(num), den)
	r := api.Ratio{Num: num / by, Den: den / by}
	if !validRatio(r) {
		return api.Ratio{}, api.ErrMany
	}
	return r, api.OK
}

// divisor returns the greatest number that divides both a and b.
func divisor(a, b int) int {
	for b != 0 {
		a, b = b, a%b
	}
	return a
}

// withoutSign returns how far a number is from 0.
func withoutSign(n int) int {
	return max(n, -n)
}
