package route

import (
	"maps"
	"slices"
	"sort"

	"shellac/api"
)

// least returns the collector behind a whole good tour of which some number is the least, and whether there is one.
func (c collector) least(number func(collector) int) (best collector, ok bool) {
	for behind := range c.wholeTours {
		if !ok || number(behind) < number(best) {
			best, ok = behind, true
		}
	}
	return best, ok
}

// shortest returns the collector behind a shortest whole good tour; ErrRoute unless the route is valid, and ErrNone if there is no such tour.
func shortest(r api.Route) (collector, api.Errno) {
	if !valid(r) {
		return collector{}, api.ErrRoute
	}
	c, ok := leave(r).least(collector.long)
	if !ok {
		return collector{}, api.ErrNone
	}
	return c, api.OK
}

// latest returns the greatest Start that leaves a whole good tour, and whether there is one. It is searched for by halves: a tour that is good is good with an earlier Start, too, since the collector never comes later.
func latest(r api.Route) (start int, ok bool) {
	late := sort.Search(api.MaxDay+1, func(minute int) bool {
		r.Start = minute
		return !leave(r).canAll()
	})
	return late - 1, late > 0
}

// canAll returns whether there is a whole good tour.
func (c collector) canAll() bool {
	for range c.wholeTours {
		return true
	}
	return false
}

// firsts returns all stops with which a whole good tour begins, ascending, and whether there is such a tour; without stops it begins with none.
func (c collector) firsts() (stops []int, ok bool) {
	count := map[int]int{}
	for behind := range c.wholeTours {
		ok = true
		if behind.visits > 0 {
			count[behind.stops[0]]++
		}
	}
	return slices.Sorted(maps.Keys(count)), ok
}

// most returns the greatest sum of the Cash of the stops of a good tour.
func (c collector) most() int {
	most := 0
	for behind := range c.tours {
		most = max(most, behind.cash)
	}
	return most
}

// shut returns all stops that are in no good tour, ascending.
func (c collector) shut() []int {
	var reached [api.MaxStops]bool
	for behind := range c.tours {
		for _, stop := range behind.stops[:behind.visits] {
			reached[stop] = true
		}
	}
	var shut []int
	for stop := range c.Stops {
		if !reached[stop] {
			shut = append(shut, stop)
		}
	}
	return shut
}
