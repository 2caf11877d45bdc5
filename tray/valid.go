package tray

import "shellac/api"

const (
	up   = 1
	down = -1
)

// valid returns whether a tray is valid.
func valid(t api.Tray) bool {
	if !isFrom(1, len(t.Records), api.MaxTray) || len(t.Presses) > api.MaxPresses {
		return false
	}
	for _, r := range t.Records {
		if !isFrom(1, r.Front, api.MaxSong) || !isFrom(1, r.Back, api.MaxSong) {
			return false
		}
	}
	for _, p := range t.Presses {
		if !isSide(t, p.Side) || !isTime(p.Time) {
			return false
		}
	}
	return isFrom(0, t.At, len(t.Records)-1) && (t.Way == up || t.Way == down) && isFrom(0, t.Step, api.MaxTrayStep)
}

// checkPressed returns ErrTray unless a tray is valid, and ErrNone if nobody presses anything.
func checkPressed(t api.Tray) api.Errno {
	if !valid(t) {
		return api.ErrTray
	}
	if len(t.Presses) == 0 {
		return api.ErrNone
	}
	return api.OK
}

func isSide(t api.Tray, side int) bool {
	return isFrom(0, side, 2*len(t.Records)-1)
}

func isTime(time int) bool {
	return isFrom(0, time, api.MaxClock)
}

// isFrom returns whether a number is from low to high.
func isFrom(low, n, high int) bool {
	return low <= n && n <= high
}
