package takings

import (
	"shellac/api"
	"shellac/coins"
)

// valid returns whether a box is valid.
func valid(b api.Box) bool {
	return coins.Check(b.Wheel) == api.OK &&
		isFrom(0, b.Plays, api.MaxRegister) && isFrom(0, b.Skips, api.MaxSkips) &&
		isPurse(b.Wheel, b.Found) && isPurse(b.Wheel, b.Marked) && isPurse(b.Wheel, b.Slugs) &&
		fit(b)
}

// isPurse returns whether a list has a number of coins for each kind of a wheel.
func isPurse(w api.Wheel, purse []int) bool {
	if len(purse) != len(w.Coins) {
		return false
	}
	for _, n := range purse {
		if !isFrom(0, n, api.MaxPut) {
			return false
		}
	}
	return true
}

// fit returns whether no more coins of a kind are marked than were found, and there are not too many coins and slugs in a box.
func fit(b api.Box) bool {
	all := 0
	for kind, found := range b.Found {
		if b.Marked[kind] > found {
			return false
		}
		all += found + b.Slugs[kind]
	}
	return all <= api.MaxPut
}

// isFrom returns whether a number is from low to high.
func isFrom(low, n, high int) bool {
	return low <= n && n <= high
}
