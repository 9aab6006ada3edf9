package arms_test

import (
	"slices"
	"testing"

	"knurl/api"
	"knurl/arms"
)

// vernier is V of the chapter's examples.
func vernier() api.Vernier { return api.Vernier{Parts: 10, Slack: 1} }

// glances are glances at the main mark 4.
func glances(lines ...int) []api.Glance {
	var l []api.Glance
	for _, line := range lines {
		l = append(l, api.Glance{Main: 4, Line: line})
	}
	return l
}

// walked are the lines that are reached from the true one by going Slack lines to both sides, around.
func walked(v api.Vernier, steps int) []int {
	seen := map[int]bool{}
	up, down := steps%v.Parts, steps%v.Parts
	for range v.Slack + 1 {
		seen[up], seen[down] = true, true
		up, down = (up+1)%v.Parts, (down+v.Parts-1)%v.Parts
	}
	var l []int
	for line := 0; line < v.Parts; line++ {
		if seen[line] {
			l = append(l, line)
		}
	}
	return l
}

// badVerniers are verniers that are not valid.
func badVerniers() []api.Vernier {
	return []api.Vernier{{}, {Parts: 1}, {Parts: -10}, {Parts: api.MaxLines + 1, Slack: 1}, {Parts: 10, Slack: -1}, {Parts: 10, Slack: 11}, {Parts: 2, Slack: 3}}
}

// sameList fails the test unless the result of a call is what is wanted.
func sameList(t *testing.T, call string, got []int, e api.Errno, want []int, wantE api.Errno) {
	t.Helper()
	if !slices.Equal(got, want) || e != wantE {
		t.Errorf("%s = %v, %d; want %v, %d", call, got, e, want, wantE)
	}
}

// P1.9
func TestSeen(t *testing.T) {
	for _, x := range []struct {
		v     api.Vernier
		steps int
		want  []int
	}{
		{vernier(), 47, []int{6, 7, 8}}, {vernier(), 40, []int{0, 1, 9}}, {vernier(), 49, []int{0, 8, 9}}, {vernier(), 0, []int{0, 1, 9}}, {vernier(), api.MaxSteps, []int{0, 1, 9}},
		{api.Vernier{Parts: 10}, 47, []int{7}}, {api.Vernier{Parts: 2}, 3, []int{1}}, {api.Vernier{Parts: 2, Slack: 1}, 3, []int{0, 1}}, {api.Vernier{Parts: 2, Slack: 2}, 0, []int{0, 1}},
		{api.Vernier{Parts: 5, Slack: 2}, 3, []int{0, 1, 2, 3, 4}}, {api.Vernier{Parts: 6, Slack: 2}, 3, []int{1, 2, 3, 4, 5}}, {api.Vernier{Parts: 4, Slack: 4}, 1, []int{0, 1, 2, 3}},
	} {
		l, e := arms.Seen(x.v, x.steps)
		sameList(t, "Seen", l, e, x.want, api.OK)
	}
	for parts := 2; parts <= api.MaxLines; parts++ {
		for slack := 0; slack <= parts; slack++ {
			v := api.Vernier{Parts: parts, Slack: slack}
			for steps := parts * 3; steps < parts*4; steps++ {
				l, e := arms.Seen(v, steps)
				sameList(t, "Seen", l, e, walked(v, steps), api.OK)
			}
		}
	}
	for _, steps := range wide() {
		l, e := arms.Seen(vernier(), steps)
		if steps >= 0 && steps <= api.MaxSteps {
			sameList(t, "Seen", l, e, walked(vernier(), steps), api.OK)
		} else {
			sameList(t, "Seen", l, e, nil, api.ErrArg)
		}
		for _, bad := range badVerniers() {
			l, e := arms.Seen(bad, steps)
			sameList(t, "Seen", l, e, nil, api.ErrVernier)
		}
	}
}

// P1.10
func TestSettings(t *testing.T) {
	all := []int{40, 41, 42, 43, 44, 45, 46, 47, 48, 49}
	for _, x := range []struct {
		v    api.Vernier
		l    []api.Glance
		want []int
		e    api.Errno
	}{
		{vernier(), glances(7), []int{46, 47, 48}, api.OK}, {vernier(), glances(7, 8), []int{47, 48}, api.OK}, {vernier(), glances(0), []int{40, 41, 49}, api.OK},
		{vernier(), glances(1, 5), nil, api.ErrNone}, {vernier(), glances(6, 8, 7), []int{47}, api.OK}, {vernier(), glances(9, 1), []int{40}, api.OK},
		{vernier(), glances(7, 7, 7, 7, 7, 7), []int{46, 47, 48}, api.OK}, {api.Vernier{Parts: 10, Slack: 5}, glances(1, 6), all, api.OK},
		{vernier(), []api.Glance{{Main: 4, Line: 7}, {Main: 5, Line: 7}}, nil, api.ErrNone},
		// The greatest number of steps ends the last main mark before its time.
		{vernier(), []api.Glance{{Main: 1000, Line: 1}}, []int{10000}, api.OK}, {vernier(), []api.Glance{{Main: 1000, Line: 5}}, nil, api.ErrNone}, {vernier(), []api.Glance{{Main: 999, Line: 0}}, []int{9990, 9991, 9999}, api.OK},
		{vernier(), []api.Glance{{Main: 1001, Line: 0}}, nil, api.ErrNone}, {vernier(), []api.Glance{{Main: api.MaxSteps, Line: 0}}, nil, api.ErrNone},
		{vernier(), []api.Glance{{Main: 0, Line: 0}}, []int{0, 1, 9}, api.OK}, {api.Vernier{Parts: 2}, []api.Glance{{Main: 5000, Line: 0}}, []int{10000}, api.OK},
	} {
		l, e := arms.Settings(x.v, x.l)
		sameList(t, "Settings", l, e, x.want, x.e)
	}
	seven := glances(7, 7, 7, 7, 7, 7, 7)
	for _, l := range [][]api.Glance{nil, {}, seven, glances(10), glances(-1), {{Main: -1, Line: 7}}, {{Main: api.MaxSteps + 1, Line: 7}}, glances(1, 5, 10), append(glances(1, 5), api.Glance{Main: -1})} {
		got, e := arms.Settings(vernier(), l)
		sameList(t, "Settings", got, e, nil, api.ErrArg)
	}
	for _, bad := range badVerniers() {
		for _, l := range [][]api.Glance{nil, seven, glances(7), glances(99)} {
			got, e := arms.Settings(bad, l)
			sameList(t, "Settings", got, e, nil, api.ErrVernier)
		}
	}
}

// randomGlances returns glances at a number of steps, of which some can be wrong.
func randomGlances(n *numbers, v api.Vernier, most int) []api.Glance {
	main := n.from(0, api.MaxSteps/v.Parts)
	var l []api.Glance
	for range n.from(1, most) {
		g := api.Glance{Main: main, Line: n.from(0, v.Parts-1)}
		if n.from(0, 20) == 0 {
			g.Main = n.from(0, api.MaxSteps)
		}
		l = append(l, g)
	}
	return l
}

// P1.16
func TestGlances(t *testing.T) {
	n := numbers{state: 16}
	for range 60 {
		parts := n.from(2, api.MaxLines)
		v := api.Vernier{Parts: parts, Slack: n.from(0, parts-1)}
		l := randomGlances(&n, v, api.MaxGlances-1)
		got, e := arms.Settings(v, l)
		var want []int
		for steps := 0; steps <= api.MaxSteps; steps++ {
			seen, _ := arms.Seen(v, steps)
			if !slices.ContainsFunc(l, func(g api.Glance) bool { return steps/parts != g.Main || !slices.Contains(seen, g.Line) }) {
				want = append(want, steps)
			}
		}
		sameList(t, "Settings", got, e, want, map[bool]api.Errno{true: api.ErrNone}[want == nil])
		turned := slices.Clone(l)
		slices.Reverse(turned)
		other, e2 := arms.Settings(v, turned)
		sameList(t, "Settings in the other order", other, e2, got, e)
		fewer, _ := arms.Settings(v, append(slices.Clone(l), randomGlances(&n, v, 1)...))
		more, _ := arms.Settings(api.Vernier{Parts: parts, Slack: v.Slack + 1}, l)
		for _, steps := range fewer {
			if !slices.Contains(got, steps) {
				t.Errorf("one more glance adds %d to %v", steps, got)
			}
		}
		for _, steps := range got {
			if !slices.Contains(more, steps) {
				t.Errorf("a greater Slack takes %d from %v", steps, got)
			}
		}
	}
}
