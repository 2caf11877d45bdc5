package meters

import "shellac/api"

// valid returns whether a meter is valid.
func valid(m api.Meter) bool {
	if len(m.Weeks) > api.MaxMeterWeeks || len(m.Readings) > api.MaxReads || !isFrom(0, m.Wrong, api.MaxReads) {
		return false
	}
	for _, plays := range m.Weeks {
		if !isFrom(0, plays.Low, plays.High) || plays.High > api.MaxTurns {
			return false
		}
	}
	for _, r := range m.Readings {
		if !isFrom(0, r.After, len(m.Weeks)) || !isFrom(0, r.Shown, turn-1) {
			return false
		}
	}
	return true
}

// check returns ErrMeter unless a meter is valid, ErrArg unless what else is asked for is there, and ErrNone if there is no truth.
func check(m api.Meter, isThere bool) api.Errno {
	switch {
	case !valid(m):
		return api.ErrMeter
	case !isThere:
		return api.ErrArg
	case fewest(m, wrongOf(m)) > m.Wrong:
		return api.ErrNone
	}
	return api.OK
}

// isFrom returns whether a number is from low to high.
func isFrom(low, n, high int) bool {
	return low <= n && n <= high
}
