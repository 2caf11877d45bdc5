// Package coins is the coin wheel of a jukebox: what coins buy, in which order they are put in best, and where a wheel stands.
package coins

import "shellac/api"

// Check returns ErrWheel unless a wheel is valid.
func Check(w api.Wheel) api.Errno {
	if !valid(w) {
		return api.ErrWheel
	}
	return api.OK
}

// Run returns the stand after acts, and how many selections were made.
func Run(w api.Wheel, s api.Stand, acts []int) (after api.Stand, made int, e api.Errno) {
	if !valid(w) {
		return api.Stand{}, 0, api.ErrWheel
	}
	work := newWheel(w)
	if !work.isStand(s) || !isList(acts, work.isAct) {
		return api.Stand{}, 0, api.ErrArg
	}
	after = s
	for _, act := range acts {
		next, selected := work.do(after, act)
		if selected {
			made++
		}
		after = next
	}
	return after, made, api.OK
}

// Plays returns how many plays coins of some kinds give from a place on, one after the other, without selections.
func Plays(w api.Wheel, place int, kinds []int) (int, api.Errno) {
	if !valid(w) {
		return 0, api.ErrWheel
	}
	work := newWheel(w)
	if !work.isPlace(place) || !isList(kinds, work.isKind) {
		return 0, api.ErrArg
	}
	return work.gives(place, total(kinds, work.worth)), api.OK
}

// Most returns how many plays a purse buys at the most.
func Most(w api.Wheel, purse []int) (int, api.Errno) {
	look, coins, e := searchOf(w, purse, more)
	if e != api.OK {
		return 0, e
	}
	return look.buys(coins), api.OK
}

// Least returns how many plays a purse buys at the least.
func Least(w api.Wheel, purse []int) (int, api.Errno) {
	look, coins, e := searchOf(w, purse, fewer)
	if e != api.OK {
		return 0, e
	}
	return look.buys(coins), api.OK
}

// Order returns a way to put a purse in that buys as many plays as Most, with a selection only where one is needed.
func Order(w api.Wheel, purse []int) ([]int, api.Errno) {
	look, coins, e := searchOf(w, purse, more)
	if e != api.OK {
		return nil, e
	}
	return look.way(coins), api.OK
}

// Wasted returns how many cents of a purse can be kept at the most, such that Most of the others is the same.
func Wasted(w api.Wheel, purse []int) (int, api.Errno) {
	look, coins, e := searchOf(w, purse, more)
	if e != api.OK {
		return 0, e
	}
	return look.wasted(coins), api.OK
}

// searchOf returns a search for the best ways of a wheel, and the coins of a purse.
func searchOf(w api.Wheel, purse []int, better func(a, b int) bool) (search, bag, api.Errno) {
	if !valid(w) {
		return search{}, bag{}, api.ErrWheel
	}
	work := newWheel(w)
	coins, ok := work.bagOf(purse)
	if !ok {
		return search{}, bag{}, api.ErrArg
	}
	return newSearch(work, better), coins, api.OK
}

// Cheapest returns how many cents at least so many plays cost at the least; ErrNone if no coins buy them.
func Cheapest(w api.Wheel, plays int) (int, api.Errno) {
	if !valid(w) {
		return 0, api.ErrWheel
	}
	if !isFrom(1, plays, api.MaxPlays) {
		return 0, api.ErrArg
	}
	cents, ok := newWheel(w).cheapest(plays)
	if !ok {
		return 0, api.ErrNone
	}
	return cents, api.OK
}

// Could returns all places at which a wheel can have stood before coins that were seen, ascending; ErrNone if there are none.
func Could(w api.Wheel, seen []api.Seen) ([]int, api.Errno) {
	_, places, e := placesOf(w, seen)
	return places, e
}

// Now returns all places at which a wheel can stand after coins that were seen, ascending; ErrNone if there are none.
func Now(w api.Wheel, seen []api.Seen) ([]int, api.Errno) {
	work, places, e := placesOf(w, seen)
	if e != api.OK {
		return nil, e
	}
	return work.behind(places, total(seen, work.seenWorth)), api.OK
}

// placesOf returns a wheel at work, and all places at which it can have stood before coins that were seen.
func placesOf(w api.Wheel, seen []api.Seen) (wheel, []int, api.Errno) {
	if !valid(w) {
		return wheel{}, nil, api.ErrWheel
	}
	work := newWheel(w)
	if !isList(seen, work.isSeen) {
		return wheel{}, nil, api.ErrArg
	}
	places := work.before(seen)
	if len(places) == 0 {
		return wheel{}, nil, api.ErrNone
	}
	return work, places, api.OK
}

// Tell returns a shortest list of kinds such that the plays that each of them gives tell where a wheel stands; ErrNone if no list of at most MaxTell kinds does.
func Tell(w api.Wheel) ([]int, api.Errno) {
	if !valid(w) {
		return nil, api.ErrWheel
	}
	kinds, ok := newWheel(w).telling()
	if !ok {
		return nil, api.ErrNone
	}
	return kinds, api.OK
}
