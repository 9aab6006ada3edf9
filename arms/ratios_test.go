package arms_test

import (
	"math/big"
	"testing"

	"knurl/api"
	"knurl/arms"
)

// P1.1
func TestReduce(t *testing.T) {
	for _, x := range [][2]api.Ratio{
		{ratio(6, 4), ratio(3, 2)}, {ratio(-3, 9), ratio(-1, 3)}, {ratio(0, 5), ratio(0, 1)}, {ratio(0, api.MaxTerm), ratio(0, 1)},
		{ratio(api.MaxTerm, api.MaxTerm), ratio(1, 1)}, {ratio(-api.MaxTerm, api.MaxTerm), ratio(-1, 1)},
		{ratio(api.MaxTerm, 1), ratio(api.MaxTerm, 1)}, {ratio(-api.MaxTerm, 1), ratio(-api.MaxTerm, 1)}, {ratio(1, api.MaxTerm), ratio(1, api.MaxTerm)},
		{ratio(999999, api.MaxTerm), ratio(999999, api.MaxTerm)},
	} {
		r, e := arms.Reduce(x[0])
		sameRatio(t, "Reduce", r, e, x[1], api.OK)
	}
	for num := -60; num <= 60; num++ {
		for den := 1; den <= 60; den++ {
			want, wantE := told(big.NewRat(int64(num), int64(den)))
			r, e := arms.Reduce(ratio(num, den))
			sameRatio(t, "Reduce", r, e, want, wantE)
		}
	}
	for _, bad := range badRatios() {
		r, e := arms.Reduce(bad)
		sameRatio(t, "Reduce", r, e, api.Ratio{}, api.ErrRatio)
	}
}

// P1.2 and, as every pair of small ratios is tried in both orders, the errors of both.
func TestAddMul(t *testing.T) {
	for _, x := range []struct {
		a, b, sum, product api.Ratio
		sumE, productE     api.Errno
	}{
		{ratio(1, 6), ratio(1, 3), ratio(1, 2), ratio(1, 18), api.OK, api.OK},
		{ratio(2, 3), ratio(-3, 4), ratio(-1, 12), ratio(-1, 2), api.OK, api.OK},
		{ratio(999999, 1), ratio(1, 1), ratio(api.MaxTerm, 1), ratio(999999, 1), api.OK, api.OK},
		{ratio(api.MaxTerm, 1), ratio(1, 1), api.Ratio{}, ratio(api.MaxTerm, 1), api.ErrMany, api.OK},
		{ratio(-api.MaxTerm, 1), ratio(-1, 1), api.Ratio{}, ratio(api.MaxTerm, 1), api.ErrMany, api.OK},
		{ratio(-999999, 1), ratio(-1, 1), ratio(-api.MaxTerm, 1), ratio(999999, 1), api.OK, api.OK},
		{ratio(api.MaxTerm, 1), ratio(1, 2), api.Ratio{}, ratio(500000, 1), api.ErrMany, api.OK},
		{ratio(1, 1000), ratio(1, 1000), ratio(1, 500), ratio(1, api.MaxTerm), api.OK, api.OK},
		{ratio(1, 1000), ratio(1, 1001), api.Ratio{}, api.Ratio{}, api.ErrMany, api.ErrMany},
		{ratio(1, api.MaxTerm), ratio(1, api.MaxTerm), ratio(1, 500000), api.Ratio{}, api.OK, api.ErrMany},
		{ratio(1, api.MaxTerm), ratio(999999, api.MaxTerm), ratio(1, 1), api.Ratio{}, api.OK, api.ErrMany},
		{ratio(api.MaxTerm, 1), ratio(1, api.MaxTerm), api.Ratio{}, ratio(1, 1), api.ErrMany, api.OK},
		{ratio(api.MaxTerm, 1), ratio(-api.MaxTerm, 1), ratio(0, 1), api.Ratio{}, api.OK, api.ErrMany},
		{ratio(0, 7), ratio(0, 9), ratio(0, 1), ratio(0, 1), api.OK, api.OK},
	} {
		r, e := arms.Add(x.a, x.b)
		sameRatio(t, "Add", r, e, x.sum, x.sumE)
		r, e = arms.Mul(x.a, x.b)
		sameRatio(t, "Mul", r, e, x.product, x.productE)
	}
	n := numbers{state: 2}
	for range 20000 {
		a, b := n.ratio(), n.ratio()
		want, wantE := told(new(big.Rat).Add(exact(a), exact(b)))
		r, e := arms.Add(a, b)
		sameRatio(t, "Add", r, e, want, wantE)
		want, wantE = told(new(big.Rat).Mul(exact(a), exact(b)))
		r, e = arms.Mul(a, b)
		sameRatio(t, "Mul", r, e, want, wantE)
	}
	for _, bad := range badRatios() {
		for _, good := range []api.Ratio{ratio(1, 1), ratio(0, 1), ratio(api.MaxTerm, 1)} {
			r, e := arms.Add(bad, good)
			sameRatio(t, "Add", r, e, api.Ratio{}, api.ErrRatio)
			r, e = arms.Add(good, bad)
			sameRatio(t, "Add", r, e, api.Ratio{}, api.ErrRatio)
			r, e = arms.Mul(bad, good)
			sameRatio(t, "Mul", r, e, api.Ratio{}, api.ErrRatio)
			r, e = arms.Mul(good, bad)
			sameRatio(t, "Mul", r, e, api.Ratio{}, api.ErrRatio)
		}
	}
}

// P1.3
func TestCompare(t *testing.T) {
	for _, x := range []struct {
		a, b api.Ratio
		want int
	}{
		{ratio(1, 3), ratio(1, 2), -1}, {ratio(2, 4), ratio(3, 6), 0}, {ratio(-1, 3), ratio(-1, 2), 1}, {ratio(0, 5), ratio(0, 7), 0}, {ratio(-1, api.MaxTerm), ratio(0, 1), -1},
		{ratio(999999, api.MaxTerm), ratio(999998, 999999), 1}, {ratio(-api.MaxTerm, 1), ratio(api.MaxTerm, 1), -1},
	} {
		c, e := arms.Compare(x.a, x.b)
		sameInt(t, "Compare", c, e, x.want, api.OK)
	}
	n := numbers{state: 3}
	for range 20000 {
		a, b := n.ratio(), n.ratio()
		c, e := arms.Compare(a, b)
		sameInt(t, "Compare", c, e, exact(a).Cmp(exact(b)), api.OK)
	}
	for _, bad := range badRatios() {
		c, e := arms.Compare(bad, ratio(1, 1))
		sameInt(t, "Compare", c, e, 0, api.ErrRatio)
		c, e = arms.Compare(ratio(-1, 1), bad)
		sameInt(t, "Compare", c, e, 0, api.ErrRatio)
	}
}

// P1.11
func TestSumsAndProducts(t *testing.T) {
	n := numbers{state: 11}
	whole := 0
	for range 20000 {
		a, b, c := n.ratio(), n.ratio(), n.ratio()
		for _, f := range []func(a, b api.Ratio) (api.Ratio, api.Errno){arms.Add, arms.Mul} {
			ab, e1 := f(a, b)
			ba, e2 := f(b, a)
			sameRatio(t, "the other order", ba, e2, ab, e1)
			bc, e3 := f(b, c)
			if e1 != api.OK || e3 != api.OK {
				continue
			}
			left, e4 := f(ab, c)
			right, e5 := f(a, bc)
			sameRatio(t, "three ratios", right, e5, left, e4)
			whole++
		}
		sum, e1 := arms.Add(b, c)
		ab, e2 := arms.Mul(a, b)
		ac, e3 := arms.Mul(a, c)
		if e1 != api.OK || e2 != api.OK || e3 != api.OK {
			continue
		}
		left, e4 := arms.Mul(a, sum)
		right, e5 := arms.Add(ab, ac)
		sameRatio(t, "a product with a sum", right, e5, left, e4)
	}
	if whole < 1000 {
		t.Errorf("only %d sums and products without ErrMany", whole)
	}
}

// P1.12
func TestOrder(t *testing.T) {
	n := numbers{state: 12}
	for range 20000 {
		a, b, c := n.ratio(), n.ratio(), n.ratio()
		ab, _ := arms.Compare(a, b)
		ba, _ := arms.Compare(b, a)
		bc, _ := arms.Compare(b, c)
		ac, _ := arms.Compare(a, c)
		if ba != -ab {
			t.Errorf("Compare of %v, %v = %d and %d", a, b, ab, ba)
		}
		if ab <= 0 && bc <= 0 && ac != min(ab, bc) || ab >= 0 && bc >= 0 && ac != max(ab, bc) {
			t.Errorf("Compare of %v, %v, %v = %d, %d, %d", a, b, c, ab, bc, ac)
		}
		above := ratio(max(1, c.Num, -c.Num), c.Den)
		sameOrder(t, arms.Add, a, b, c)
		sameOrder(t, arms.Mul, a, b, above)
	}
}

// sameOrder fails the test if adding c to both ratios, or multiplying both by it, changes their order.
func sameOrder(t *testing.T, f func(a, b api.Ratio) (api.Ratio, api.Errno), a, b, c api.Ratio) {
	t.Helper()
	x, e1 := f(a, c)
	y, e2 := f(b, c)
	if e1 != api.OK || e2 != api.OK {
		return
	}
	before, _ := arms.Compare(a, b)
	if after, _ := arms.Compare(x, y); after != before {
		t.Errorf("Compare of %v, %v = %d; with %v: %d", a, b, before, c, after)
	}
}
