package wires

import "shellac/api"

// ask returns the truths of a box, and the error of check; then ErrNone if there are none.
func ask(w api.Wire, others bool) ([][]api.WireFault, api.Errno) {
	if e := check(w, others); e != api.OK {
		return nil, e
	}
	truths := truthsOf(w)
	if len(truths) == 0 {
		return nil, api.ErrNone
	}
	return truths, api.OK
}

// check returns ErrWire unless a box is valid, then ErrArg unless all other arguments are.
func check(w api.Wire, others bool) api.Errno {
	switch {
	case !valid(w):
		return api.ErrWire
	case !others:
		return api.ErrArg
	}
	return api.OK
}

// valid returns whether a box is valid.
func valid(w api.Wire) bool {
	if !isFrom(1, w.Letters, api.MaxButtons) || !isFrom(1, w.Numbers, api.MaxButtons) || len(w.Presses) > api.MaxTried {
		return false
	}
	for _, p := range w.Presses {
		if !isPress(w, p.Letter, p.Number) || !isFrom(nothing, p.Got, w.Letters*w.Numbers-1) {
			return false
		}
	}
	return isFrom(0, w.Faults, api.MaxFaults)
}

// isPress returns whether a letter and a number are ones of a box.
func isPress(w api.Wire, letter, number int) bool {
	return isFrom(0, letter, w.Letters-1) && isFrom(0, number, w.Numbers-1)
}

// isSet returns whether a list of faults is a set of a box.
func isSet(w api.Wire, faults []api.WireFault) bool {
	for i, f := range faults {
		if !isFault(w, f) || !fits(faults[:i], f) {
			return false
		}
	}
	return true
}

// isFault returns whether a fault is one of a box.
func isFault(w api.Wire, f api.WireFault) bool {
	switch f.Kind {
	case api.DeadLetter:
		return isDead(w.Letters, f)
	case api.DeadNumber:
		return isDead(w.Numbers, f)
	case api.CrossLetters:
		return isCross(w.Letters, f)
	case api.CrossNumbers:
		return isCross(w.Numbers, f)
	}
	return false
}

// isDead returns whether a fault names one of some buttons.
func isDead(buttons int, f api.WireFault) bool {
	return isFrom(0, f.A, buttons-1) && f.B == 0
}

// isCross returns whether a fault names two of some buttons, the lesser one first.
func isCross(buttons int, f api.WireFault) bool {
	return 0 <= f.A && f.A < f.B && f.B < buttons
}

// isFrom returns whether a number is from low to high.
func isFrom(low, n, high int) bool {
	return low <= n && n <= high
}
