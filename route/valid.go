package route

import (
	"slices"

	"shellac/api"
)

// valid returns whether a route is valid.
func valid(r api.Route) bool {
	if len(r.Stops) > api.MaxStops {
		return false
	}
	for _, s := range r.Stops {
		if !isStop(s) {
			return false
		}
	}
	return hasWays(r) && isFrom(0, r.Start, api.MaxDay)
}

func isStop(s api.RouteStop) bool {
	return isFrom(0, s.Open, s.Close) && s.Close <= api.MaxDay && isFrom(0, s.Stay, api.MaxDay) && isFrom(0, s.Cash, api.MaxCash)
}

// hasWays returns whether there is a valid number for the way from each place to each one, the house among them.
func hasWays(r api.Route) bool {
	places := len(r.Stops) + 1
	if len(r.Drive) != places {
		return false
	}
	for from, minutes := range r.Drive {
		if len(minutes) != places || minutes[from] != 0 || !areWays(minutes) {
			return false
		}
	}
	return true
}

func areWays(minutes []int) bool {
	for _, n := range minutes {
		if !isFrom(0, n, api.MaxDrive) {
			return false
		}
	}
	return true
}

// isTour returns whether a list has only stops of a route, each at most once.
func isTour(r api.Route, list []int) bool {
	for i, stop := range list {
		if !isFrom(0, stop, len(r.Stops)-1) || slices.Contains(list[:i], stop) {
			return false
		}
	}
	return true
}

// isFrom returns whether a number is from low to high.
func isFrom(low, n, high int) bool {
	return low <= n && n <= high
}
