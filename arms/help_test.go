package arms_test

import (
	"math"
	"math/big"
	"testing"

	"knurl/api"
)

func ratio(num, den int) api.Ratio { return api.Ratio{Num: num, Den: den} }

func exact(r api.Ratio) *big.Rat { return big.NewRat(int64(r.Num), int64(r.Den)) }

// told is a number as the document wants it told: reduced, or ErrMany if it is not valid.
func told(x *big.Rat) (api.Ratio, api.Errno) {
	most := big.NewInt(api.MaxTerm)
	if x.Num().CmpAbs(most) > 0 || x.Denom().Cmp(most) > 0 {
		return api.Ratio{}, api.ErrMany
	}
	return ratio(int(x.Num().Int64()), int(x.Denom().Int64())), api.OK
}

// sameRatio fails the test unless the result of a call is what is wanted.
func sameRatio(t *testing.T, call string, got api.Ratio, e api.Errno, want api.Ratio, wantE api.Errno) {
	t.Helper()
	if got != want || e != wantE {
		t.Errorf("%s = %v, %d; want %v, %d", call, got, e, want, wantE)
	}
}

// sameInt does the same for a number.
func sameInt(t *testing.T, call string, got int, e api.Errno, want int, wantE api.Errno) {
	t.Helper()
	if got != want || e != wantE {
		t.Errorf("%s = %d, %d; want %d, %d", call, got, e, want, wantE)
	}
}

// numbers is a fixed sequence of numbers that follow no short rule.
type numbers struct{ state uint64 }

// from returns the next number, from low to high.
func (n *numbers) from(low, high int) int {
	n.state = n.state*6364136223846793005 + 1442695040888963407
	return low + int((n.state>>33)%uint64(high-low+1))
}

// ratio returns a valid ratio with terms of every length.
func (n *numbers) ratio() api.Ratio {
	most := [...]int{1, 3, 10, 100, 1000, 5000, api.MaxTerm}
	top, bottom := most[n.from(0, len(most)-1)], most[n.from(0, len(most)-1)]
	return ratio(n.from(-top, top), n.from(1, bottom))
}

// arm returns a valid arm with few settings, or with many.
func (n *numbers) arm(settings int) api.Arm {
	part := [...]int{3, 12, api.MaxPart}[n.from(0, 2)]
	low := n.from(1, api.MaxSteps-settings)
	return api.Arm{
		Unit: ratio(n.from(1, part), n.from(1, part)),
		Roll: ratio(n.from(1, part), n.from(1, part)),
		Low:  low,
		High: low + n.from(0, settings),
	}
}

// wide are numbers at the ends of what an int and a limit can be.
func wide() []int {
	return []int{math.MinInt, math.MinInt + 1, -api.MaxTerm - 1, -api.MaxTerm, -1, 0, 1, 2, 100, 101, api.MaxSteps, api.MaxSteps + 1, api.MaxTerm, api.MaxTerm + 1, math.MaxInt}
}

// badRatios are ratios that are not valid, each for one reason, or for several.
func badRatios() []api.Ratio {
	return []api.Ratio{
		{}, ratio(1, 0), ratio(0, 0), ratio(1, -1), ratio(-1, -1), ratio(1, api.MaxTerm+1), ratio(api.MaxTerm+1, 1), ratio(-api.MaxTerm-1, 1),
		ratio(2*api.MaxTerm, 2), ratio(2, 2*api.MaxTerm), // equal to valid ones
		ratio(math.MaxInt, math.MaxInt), ratio(math.MinInt, 1), ratio(1, math.MinInt),
	}
}
