package coins

import (
	"slices"

	"shellac/api"
)

// gave returns whether coins give what was seen from a place on.
func (w wheel) gave(place int, seen []api.Seen) bool {
	for _, s := range seen {
		cents := w.seenWorth(s)
		if w.gives(place, cents) != s.Plays {
			return false
		}
		place = w.turned(place, cents)
	}
	return true
}

// before returns all places from which on coins give what was seen.
func (w wheel) before(seen []api.Seen) []int {
	var places []int
	for place := range w.Round {
		if w.gave(place, seen) {
			places = append(places, place)
		}
	}
	return places
}

// behind returns the places to which so many cents turn the wheel from each of some places, ascending.
func (w wheel) behind(places []int, cents int) []int {
	var after []int
	for _, place := range places {
		after = append(after, w.turned(place, cents))
	}
	slices.Sort(after)
	return after
}

// telling returns a shortest list of kinds that tells where the wheel stands, and whether there is one.
func (w wheel) telling() (kinds []int, ok bool) {
	lists := [][]int{nil}
	for range api.MaxTell + 1 {
		for _, list := range lists {
			if w.tells(list) {
				return list, true
			}
		}
		lists = w.longer(lists)
	}
	return nil, false
}

// longer returns all lists that have one more kind behind one of some lists.
func (w wheel) longer(lists [][]int) [][]int {
	var all [][]int
	for _, list := range lists {
		for kind := range w.Coins {
			all = append(all, append(slices.Clone(list), kind))
		}
	}
	return all
}

// tells returns whether coins give something else from each place on. Two places are never turned to the same one: who knows where the wheel stood also knows where it stands.
func (w wheel) tells(kinds []int) bool {
	seen := map[[api.MaxTell]int]bool{}
	for place := range w.Round {
		var plays [api.MaxTell]int
		at := place
		for i, kind := range kinds {
			cents := w.worth(kind)
			plays[i] = w.gives(at, cents)
			at = w.turned(at, cents)
		}
		if seen[plays] {
			return false
		}
		seen[plays] = true
	}
	return true
}
