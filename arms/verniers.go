package arms

import "knurl/api"

// Seen returns all lines that seem to fit.
func Seen(v api.Vernier, steps int) ([]int, api.Errno) {
	if e := checkVernier(v); e != api.OK {
		return nil, e
	}
	if steps < 0 || steps > api.MaxSteps {
		return nil, api.ErrArg
	}
	var lines []int
	for line := range v.Parts {
		if fits(v, steps, line) {
			lines = append(lines, line)
		}
	}
	return lines, api.OK
}

// Settings returns all numbers of steps that glances allow.
func Settings(v api.Vernier, l []api.Glance) ([]int, api.Errno) {
	if e := checkVernier(v); e != api.OK {
		return nil, e
	}
	if e := checkGlances(v, l); e != api.OK {
		return nil, e
	}
	var truths []int
next:
	for steps := range api.MaxSteps + 1 {
		for _, g := range l {
			if steps/v.Parts != g.Main || !fits(v, steps, g.Line) {
				continue next
			}
		}
		truths = append(truths, steps)
	}
	if len(truths) == 0 {
		return nil, api.ErrNone
	}
	return truths, api.OK
}

// checkVernier returns ErrVernier unless a vernier is valid.
func checkVernier(v api.Vernier) api.Errno {
	if v.Parts < 2 || v.Parts > api.MaxLines || v.Slack < 0 || v.Slack > v.Parts {
		return api.ErrVernier
	}
	return api.OK
}

// checkGlances returns ErrArg unless the glances can be those of a vernier.
func checkGlances(v api.Vernier, l []api.Glance) api.Errno {
	if len(l) < 1 || len(l) > api.MaxGlances {
		return api.ErrArg
	}
	for _, g := range l {
		if g.Main < 0 || g.Main > api.MaxSteps || g.Line < 0 || g.Line >= v.Parts {
			return api.ErrArg
		}
	}
	return api.OK
}

// fits returns whether a line seems to fit at a number of steps.
func fits(v api.Vernier, steps, line int) bool {
	away := withoutSign(steps%v.Parts - line)
	return min(away, v.Parts-away) <= v.Slack
}
