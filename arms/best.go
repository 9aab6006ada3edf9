package arms

import "knurl/api"

// Best returns the nearest ratio with a denominator that is at most a number.
func Best(r api.Ratio, most int) (api.Ratio, api.Errno) {
	exact, e := Reduce(r)
	if e != api.OK {
		return api.Ratio{}, e
	}
	if most < 1 || most > api.MaxTerm {
		return api.Ratio{}, api.ErrArg
	}
	if exact.Den <= most {
		return exact, api.OK
	}
	low, high := neighbours(exact, most)
	// Both distances are multiplied by all three denominators, so that they are whole numbers.
	toLow := apart(exact, low) * high.Den
	toHigh := apart(exact, high) * low.Den
	if toLow < toHigh || toLow == toHigh && low.Den <= high.Den {
		return low, api.OK
	}
	return high, api.OK
}

// neighbours returns the greatest ratio below r, and the least one above it, of all those whose Den is at most most. The Den of r is greater than most, so that no such ratio is r.
func neighbours(r api.Ratio, most int) (low, high api.Ratio) {
	whole := roundedDown(r)
	low = api.Ratio{Num: whole, Den: 1}
	high = api.Ratio{Num: whole + 1, Den: 1}
	// Every ratio between low and high has at least the sum of their Dens as its Den.
	for low.Den+high.Den <= most {
		low = moved(low, high, r, most)
		high = moved(high, low, r, most)
	}
	return low, high
}

// moved returns from, with both numbers of to added to its own as often as it stays on its side of r, with a Den of at most most (as no such ratio is r, it need not be kept from reaching it). Adding them one time after the other would take a million steps for 1 / 1000000.
func moved(from, to, r api.Ratio, most int) api.Ratio {
	times := min((most-from.Den)/to.Den, apart(r, from)/apart(r, to))
	return api.Ratio{Num: from.Num + times*to.Num, Den: from.Den + times*to.Den}
}

// apart returns the distance between two ratios, multiplied by both denominators.
func apart(a, b api.Ratio) int {
	return withoutSign(a.Num*b.Den - b.Num*a.Den)
}

// roundedDown returns the greatest whole number that is not greater than a ratio.
func roundedDown(r api.Ratio) int {
	whole := r.Num / r.Den
	if r.Num%r.Den < 0 {
		whole--
	}
	return whole
}
