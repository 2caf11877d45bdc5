package pulses

import "shellac/api"

// check returns ErrPulse unless a train is valid, then ErrArg unless all other arguments are.
func check(p api.Pulse, others bool) api.Errno {
	switch {
	case !valid(p):
		return api.ErrPulse
	case !others:
		return api.ErrArg
	}
	return api.OK
}

// valid returns whether a train is valid.
func valid(p api.Pulse) bool {
	return isFrom(1, p.Letters, api.MaxButtons) && isFrom(1, p.Numbers, api.MaxButtons) &&
		areDistances(p) && isFrom(0, p.Sparks, api.MaxSparks) && areTimes(p.Times)
}

// areDistances returns whether each distance of a train can be only one of a kind: of two pulses of a group, of two groups, or of two selections.
func areDistances(p api.Pulse) bool {
	return isFrom(1, p.Pitch, api.MaxPitch) && isFrom(0, p.Slack, p.Pitch-1) &&
		p.Pitch+p.Slack < p.Gap && p.Gap < p.Pause && p.Pause <= api.MaxPause
}

// areTimes returns whether some times are ones of the pulses of a train.
func areTimes(times []int) bool {
	for i, at := range times {
		if !isTime(at) || i > 0 && at <= times[i-1] {
			return false
		}
	}
	return len(times) <= api.MaxPulses
}

// isTime returns whether a pulse can come at a time.
func isTime(at int) bool { return isFrom(0, at, api.MaxTime) }

// isList returns whether a list is one of selections of a train, and has not too many of them.
func isList(p api.Pulse, list []int) bool {
	return len(list) <= api.MaxPulses && all(list, func(s int) bool { return isSelection(p, s) })
}

// isSelection returns whether a number is a selection of a train.
func isSelection(p api.Pulse, selection int) bool {
	return isFrom(0, selection, p.Letters*p.Numbers-1)
}

// isFrom returns whether a number is from low to high.
func isFrom(low, n, high int) bool {
	return low <= n && n <= high
}
