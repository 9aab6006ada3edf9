package arms_test

import (
	"math/big"
	"testing"

	"knurl/api"
	"knurl/arms"
)

// tried is Best, by trying the ratios to both sides with each Den, the least Den and the least ratio first.
func tried(r api.Ratio, most int) api.Ratio {
	var best api.Ratio
	for den := 1; den <= most; den++ {
		low := r.Num * den / r.Den
		if r.Num < 0 && low*r.Den != r.Num*den {
			low--
		}
		for _, num := range []int{low, low + 1} {
			// Both distances, multiplied by both Dens and that of r.
			if far, bestFar := distance(r, num, den)*best.Den, distance(r, best.Num, best.Den)*den; best.Den == 0 || far < bestFar {
				best = ratio(num, den)
			}
		}
	}
	return best
}

func distance(r api.Ratio, num, den int) int {
	return max(r.Num*den-num*r.Den, num*r.Den-r.Num*den)
}

// P1.4
func TestBest(t *testing.T) {
	for _, x := range []struct {
		r    api.Ratio
		most int
		want api.Ratio
	}{
		{ratio(355, 113), 10, ratio(22, 7)}, {ratio(355, 113), 112, ratio(333, 106)}, {ratio(355, 113), 113, ratio(355, 113)},
		{ratio(1, 2), 1, ratio(0, 1)}, {ratio(-1, 2), 1, ratio(-1, 1)}, {ratio(3, 2), 1, ratio(1, 1)}, {ratio(7, 5), 2, ratio(3, 2)}, {ratio(5, 12), 2, ratio(1, 2)},
		{ratio(1, 6), 4, ratio(1, 4)}, {ratio(-1, 6), 4, ratio(-1, 4)}, {ratio(1, 6), 3, ratio(0, 1)}, // 0 / 1 and 1 / 3 are equally near
		{ratio(5, 6), 3, ratio(1, 1)}, {ratio(-5, 6), 3, ratio(-1, 1)}, {ratio(-1, 6), 3, ratio(0, 1)},
		{ratio(0, 9), 1, ratio(0, 1)}, {ratio(6, 4), 2, ratio(3, 2)}, {ratio(500000, api.MaxTerm), 2, ratio(1, 2)},
		{ratio(1, api.MaxTerm), 999999, ratio(1, 999999)}, {ratio(-999999, api.MaxTerm), 999999, ratio(-999998, 999999)}, {ratio(999999, 2), 1, ratio(499999, 1)},
		{ratio(api.MaxTerm, 999999), 999998, ratio(999999, 999998)}, {ratio(api.MaxTerm, 3), 2, ratio(666667, 2)},
		{ratio(api.MaxTerm, 1), 1, ratio(api.MaxTerm, 1)}, {ratio(-api.MaxTerm, 1), api.MaxTerm, ratio(-api.MaxTerm, 1)},
	} {
		r, e := arms.Best(x.r, x.most)
		sameRatio(t, "Best", r, e, x.want, api.OK)
	}
	for num := -25; num <= 25; num++ {
		for den := 1; den <= 25; den++ {
			for most := 1; most <= 26; most++ {
				r, e := arms.Best(ratio(num, den), most)
				sameRatio(t, "Best", r, e, tried(ratio(num, den), most), api.OK)
			}
		}
	}
	n := numbers{state: 4}
	for range 3000 {
		r, most := n.ratio(), n.from(1, [...]int{10, 100, 3000}[n.from(0, 2)])
		best, e := arms.Best(r, most)
		sameRatio(t, "Best", best, e, tried(r, most), api.OK)
	}
}

func TestBestErrors(t *testing.T) {
	for _, most := range wide() {
		_, e := arms.Best(ratio(1, 2), most)
		if want := most >= 1 && most <= api.MaxTerm; want != (e == api.OK) || !want && e != api.ErrArg {
			t.Errorf("Best of 1 / 2, %d: %d", most, e)
		}
		for _, bad := range badRatios() {
			r, e := arms.Best(bad, most)
			sameRatio(t, "Best", r, e, api.Ratio{}, api.ErrRatio)
		}
	}
	r, e := arms.Best(ratio(0, 1), 0)
	sameRatio(t, "Best", r, e, api.Ratio{}, api.ErrArg)
}

// off returns how far two ratios are apart.
func off(a, b api.Ratio) *big.Rat {
	d := new(big.Rat).Sub(exact(a), exact(b))
	return d.Abs(d)
}

// P1.13
func TestTheBestOne(t *testing.T) {
	n := numbers{state: 13}
	for range 5000 {
		r, most := n.ratio(), n.from(1, [...]int{20, 2000, api.MaxTerm}[n.from(0, 2)])
		best, _ := arms.Best(r, most)
		reduced, _ := arms.Reduce(r)
		if best.Den > most || reduced.Den <= most && best != reduced {
			t.Errorf("Best of %v, %d = %v", r, most, best)
		}
		for range 10 {
			den := n.from(1, most)
			num := r.Num*den/r.Den + n.from(-1, 1)
			if off(r, ratio(num, den)).Cmp(off(r, best)) < 0 {
				t.Errorf("Best of %v, %d = %v; %d / %d is nearer", r, most, best, num, den)
			}
		}
		if more, _ := arms.Best(r, n.from(most, api.MaxTerm)); off(r, more).Cmp(off(r, best)) > 0 {
			t.Errorf("Best of %v, %d = %v; %v is farther", r, most, best, more)
		}
		other := ratio(-r.Num, r.Den)
		if turned, _ := arms.Best(other, most); off(other, turned).Cmp(off(r, best)) != 0 {
			t.Errorf("Best of %v, %d = %v; with the other sign %v", r, most, best, turned)
		}
	}
}
