package coins

import "shellac/api"

const (
	// selection is the act that uses a play.
	selection = -1
	// maxGave is how many plays a coin that was seen can be said to have given.
	maxGave = 2400
)

// wheel is a valid wheel at work.
type wheel struct {
	api.Wheel
	passed []int // for each place, how many notches stand from 1 up to it
}

// valid returns whether a wheel is valid.
func valid(w api.Wheel) bool {
	return isFrom(1, w.Round, api.MaxRound) &&
		len(w.Notches) <= api.MaxNotches && ascend(w.Notches, w.Round) &&
		len(w.Coins) <= api.MaxKinds && ascend(w.Coins, api.MaxCoin)
}

// isFrom returns whether a number is from low to high.
func isFrom(low, n, high int) bool {
	return low <= n && n <= high
}

// ascend returns whether numbers are strictly ascending, from 1 to high.
func ascend(list []int, high int) bool {
	before := 0
	for _, n := range list {
		if !isFrom(before+1, n, high) {
			return false
		}
		before = n
	}
	return true
}

// newWheel sets a valid wheel to work.
func newWheel(w api.Wheel) wheel {
	passed := make([]int, w.Round)
	notches := 0
	for place := range w.Round {
		if notches < len(w.Notches) && w.Notches[notches] == place {
			notches++
		}
		passed[place] = notches
	}
	return wheel{Wheel: w, passed: passed}
}

// fromStart returns how many plays so many cents give, from the place 0 on.
func (w wheel) fromStart(cents int) int {
	return cents/w.Round*len(w.Notches) + w.passed[cents%w.Round]
}

// gives returns how many plays so many cents give from a place on.
func (w wheel) gives(place, cents int) int {
	return w.fromStart(place+cents) - w.fromStart(place)
}

// turned returns the place to which so many cents turn the wheel.
func (w wheel) turned(place, cents int) int {
	return (place + cents) % w.Round
}

// do returns the stand behind an act, and whether that was a selection for which there was a credit.
func (w wheel) do(s api.Stand, act int) (after api.Stand, made bool) {
	if act != selection {
		cents := w.worth(act)
		return api.Stand{Place: w.turned(s.Place, cents), Credit: s.Credit + w.gives(s.Place, cents)}, false
	}
	if s.Credit == 0 {
		return s, false
	}
	return api.Stand{Place: 0, Credit: s.Credit - 1}, true
}

// worth returns the cents of a kind.
func (w wheel) worth(kind int) int {
	return w.Coins[kind]
}

// seenWorth returns the cents of a coin that was seen.
func (w wheel) seenWorth(s api.Seen) int {
	return w.worth(s.Kind)
}

func (w wheel) isPlace(place int) bool {
	return isFrom(0, place, w.Round-1)
}

func (w wheel) isStand(s api.Stand) bool {
	return w.isPlace(s.Place) && isFrom(0, s.Credit, api.MaxPlays)
}

func (w wheel) isKind(kind int) bool {
	return isFrom(0, kind, len(w.Coins)-1)
}

func (w wheel) isAct(act int) bool {
	return act == selection || w.isKind(act)
}

func (w wheel) isSeen(s api.Seen) bool {
	return w.isKind(s.Kind) && isFrom(0, s.Plays, maxGave)
}

// isList returns whether a list is not too long, and each element is one.
func isList[T any](list []T, isOne func(T) bool) bool {
	if len(list) > api.MaxSeen {
		return false
	}
	for _, element := range list {
		if !isOne(element) {
			return false
		}
	}
	return true
}

// total returns the cents of all elements together.
func total[T any](list []T, worth func(T) int) int {
	cents := 0
	for _, element := range list {
		cents += worth(element)
	}
	return cents
}
