package discord_test

import (
	"math"
	"slices"
	"testing"

	"knurl/api"
	"knurl/discord"
)

// answer is what a function returns, each number of it, and its error.
type answer struct {
	numbers []int
	e       api.Errno
}

func one(n int, e api.Errno) answer    { return answer{[]int{n}, e} }
func list(l []int, e api.Errno) answer { return answer{l, e} }

// both puts -1 between two lists.
func both(l, k []int, e api.Errno) answer {
	if len(l)+len(k) == 0 {
		return answer{e: e}
	}
	return answer{slices.Concat(l, []int{-1}, k), e}
}

func corner(p []api.Point, e api.Errno) answer {
	a := answer{e: e}
	for _, c := range p {
		a.numbers = append(a.numbers, c.X, c.Y)
	}
	return a
}

// asked returns what all functions answer.
func asked(d api.Dispute, faults int) map[string]answer {
	return map[string]answer{
		"Check":   {nil, discord.Check(d)},
		"Fewest":  one(discord.Fewest(d)),
		"Areas":   list(discord.Areas(d, faults)),
		"Blamed":  both(discord.Blamed(d)),
		"Sure":    both(discord.Sure(d)),
		"Corners": one(discord.Corners(d)),
		"Walks":   one(discord.Walks(d)),
		"Mend":    corner(discord.Mend(d)),
	}
}

// sameErrors fails the test unless all functions return an error, but for those that are listed with another one, and with each error zero values alone.
func sameErrors(t *testing.T, name string, d api.Dispute, faults int, want api.Errno, but map[string]api.Errno) {
	t.Helper()
	for call, a := range asked(d, faults) {
		wanted, other := but[call]
		if !other {
			wanted = want
		}
		if a.e != wanted {
			t.Errorf("%s of %s: %d, want %d", call, name, a.e, wanted)
		}
		zeroWithError(t, name, call, a)
	}
}

func zeroWithError(t *testing.T, name, call string, a answer) {
	t.Helper()
	number := call == "Fewest" || call == "Corners" || call == "Walks"
	if a.e != api.OK && (!number && len(a.numbers) > 0 || slices.ContainsFunc(a.numbers, func(n int) bool { return n != 0 })) {
		t.Errorf("%s of %s = %v with the error %d", call, name, a.numbers, a.e)
	}
}

// R1, R2: ErrDispute, then ErrArg, then ErrNone.
func TestOrderOfErrors(t *testing.T) {
	sameErrors(t, "D", disputeD(), 1, api.OK, nil)
	sameErrors(t, "D", disputeD(), mostFaults, api.OK, nil)
	sameErrors(t, "D without faults", disputeD(), 0, api.OK, map[string]api.Errno{"Areas": api.ErrNone})
	for _, faults := range []int{0, mostFaults} {
		sameErrors(t, "no story", disputeN(), faults, api.ErrNone, map[string]api.Errno{"Check": api.OK})
	}
	for _, faults := range []int{math.MinInt, -1, mostFaults + 1, math.MaxInt} {
		sameErrors(t, "D, a bad number of faults", disputeD(), faults, api.OK, map[string]api.Errno{"Areas": api.ErrArg})
		sameErrors(t, "no story, a bad number of faults", disputeN(), faults, api.ErrNone, map[string]api.Errno{"Check": api.OK, "Areas": api.ErrArg})
	}
	for name, d := range badDisputes() {
		for _, faults := range []int{-1, 0, mostFaults + 1} {
			sameErrors(t, name, d, faults, api.ErrDispute, nil)
		}
	}
}

// P8.6 to P8.8: there are stories, but none without a wrong walk, or none without a wrong corner.
func TestNoneOfOneSide(t *testing.T) {
	d := disputeD()
	d.Walks[1].End = 15
	sameErrors(t, "walks that contradict each other", d, 2, api.OK, map[string]api.Errno{"Corners": api.ErrNone, "Mend": api.ErrNone})
	d = disputeD()
	d.Wheel.Guess = span(33, 40)
	sameErrors(t, "the area by the corners not in Guess", d, 2, api.OK, map[string]api.Errno{"Walks": api.ErrNone})
	d.Walks[1].End = 15
	sameErrors(t, "both", d, 2, api.OK, map[string]api.Errno{"Corners": api.ErrNone, "Mend": api.ErrNone, "Walks": api.ErrNone})
}

// P1, R5, R8: no argument makes a function panic, or go on without end.
func TestAnyArguments(t *testing.T) {
	n := numbers{state: 1}
	pick := func() int { return wide()[n.from(0, len(wide())-1)] }
	found := map[api.Errno]int{}
	small(15, 2500, func(_ *numbers, d api.Dispute) {
		faults := n.from(0, 5)
		i := n.from(0, len(d.Corners)-1)
		switch n.from(0, 9) {
		case 0:
			d.Corners[i] = api.Point{X: pick(), Y: pick()}
		case 1:
			d.Offs[i] = pick()
		case 2:
			d.Offs = append(d.Offs, 0)
		case 3:
			d.Unit = pick()
		case 4:
			d.Wheel.Guess = span(pick(), pick())
		case 5:
			d.Wheel = api.Wheel{Full: pick(), Read: pick(), Slip: pick(), Skew: pick(), Circle: pick(), Guess: span(n.from(0, 9), n.from(10, 99)), Wrong: pick()}
		case 6:
			d.Walks = append(d.Walks, walk(pick(), pick(), pick(), pick(), pick()))
		case 7:
			d.Walks = slices.Repeat(d.Walks, n.from(0, 3))
		case 8:
			d.Wheel.Wrong, d.Wheel.Circle, faults = pick(), pick(), pick()
		}
		for call, a := range asked(d, faults) {
			zeroWithError(t, "any", call, a)
			found[a.e]++
		}
	})
	if found[api.OK] < 1000 || found[api.ErrNone] < 500 || found[api.ErrDispute] < 1000 || found[api.ErrArg] < 20 {
		t.Errorf("errors %v", found)
	}
}

// R3, R7: nil and empty are the same, and a limit includes its number and counts equal elements.
func TestNumberOfElements(t *testing.T) {
	for count := range 11 {
		d := disputeD()
		d.Walks = slices.Repeat(d.Walks[:1], count)
		want := map[bool]api.Errno{true: api.OK, false: api.ErrDispute}[count <= api.MaxWalks]
		sameErrors(t, "equal walks", d, 9, want, nil)
	}
	empty, none := disputeD(), disputeD()
	empty.Walks, none.Walks = []api.Walk{}, nil
	for call, a := range asked(empty, 0) {
		if b := asked(none, 0)[call]; a.e != api.OK || b.e != api.OK || !slices.Equal(a.numbers, b.numbers) {
			t.Errorf("%s of no walks: %v; of nil: %v", call, a, b)
		}
	}
	for _, d := range []api.Dispute{{}, {Corners: []api.Point{}, Offs: []int{}, Walks: []api.Walk{}}} {
		sameErrors(t, "nothing", d, 0, api.ErrDispute, nil)
	}
}

// R4: a result is new memory, an argument stays as it was, also behind its end; and no state is kept.
func TestMemory(t *testing.T) {
	n := numbers{state: 16}
	disputes := []api.Dispute{disputeD(), disputeN()}
	for range 20 {
		disputes = append(disputes, n.dispute(n.polygon(5, 6), n.offs(5, 625), 1, 4))
	}
	for _, x := range disputes {
		long := copied(x)
		long.Corners, long.Offs, long.Walks = append(long.Corners, api.Point{X: 7, Y: 7}), append(long.Offs, 7), append(long.Walks, walk(7, 7, 7, 7, 7))
		before := copied(long)
		d := long
		d.Corners, d.Offs, d.Walks = long.Corners[:len(x.Corners)], long.Offs[:len(x.Offs)], long.Walks[:len(x.Walks)]
		for call, a := range asked(d, 3) {
			if again := asked(d, 3)[call]; !slices.Equal(again.numbers, a.numbers) || again.e != a.e {
				t.Errorf("%s = %v, and then %v", call, a, again)
			}
		}
		if !slices.Equal(long.Corners, before.Corners) || !slices.Equal(long.Offs, before.Offs) || !slices.Equal(long.Walks, before.Walks) {
			t.Errorf("an argument was changed: %+v; it was %+v", long, before)
		}
	}
}

// R4: a list that a call returned can be changed.
func TestMemoryOfLists(t *testing.T) {
	d := disputeD()
	d.Walks[0].End, d.Walks[1].End = 42, 18 // both tell 32
	p, e := discord.Mend(d)
	sameList(t, "Mend", p, e, d.Corners, api.OK)
	clear(p)
	sameList(t, "the corners", d.Corners, e, points(0, 0, 4, 0, 4, 4, 0, 4), api.OK)
	for i := range 2 {
		d := disputeD()
		l, e := discord.Areas(d, 2)
		sameList(t, "Areas", l, e, []int{32, 36}, api.OK)
		d.Walks[i].End++ // the walks contradict each other
		d.Offs = make([]int, 4)
		for _, call := range []func(api.Dispute) ([]int, []int, api.Errno){discord.Blamed, discord.Sure} {
			cornerList, walks, e := call(d)
			sameList(t, "corners", cornerList, e, nil, api.OK)
			sameList(t, "walks", walks, e, []int{0, 1}, api.OK)
			clear(l)
			clear(walks)
		}
	}
}
