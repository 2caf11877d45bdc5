package route

import (
	"slices"

	"shellac/api"
)

// collector is one on the way along a valid route, behind some visits. It keeps them in arrays, so that it is a value: what goes on from it to one stop changes nothing of what goes on to another one.
type collector struct {
	api.Route
	stops, begins [api.MaxStops]int // the stops that were visited, and the minutes in which this began
	visits        int               // how many these are
	place, minute int               // from where the collector drives on, and when
	driven, cash  int               // the minutes up to there, and the cents of the stops
}

// leave returns the collector who leaves the house of a valid route.
func leave(r api.Route) collector {
	return collector{Route: r, place: len(r.Stops), minute: r.Start}
}

// follow returns the collector behind all visits of a tour; ErrRoute unless the route is valid, ErrArg unless the tour is one of it, and ErrLate, with the first stop that is missed, unless the tour is good.
func follow(r api.Route, tour []int) (c collector, missed int, e api.Errno) {
	switch {
	case !valid(r):
		return collector{}, 0, api.ErrRoute
	case !isTour(r, tour):
		return collector{}, 0, api.ErrArg
	}
	c = leave(r)
	for _, stop := range tour {
		next, ok := c.visit(stop)
		if !ok {
			return collector{}, stop, api.ErrLate
		}
		c = next
	}
	return c, 0, api.OK
}

// visit returns the collector behind the visit of one more stop, and whether it is not missed.
func (c collector) visit(stop int) (next collector, ok bool) {
	s, drive := c.Stops[stop], c.Drive[c.place][stop]
	comes := c.minute + drive
	if comes > s.Close {
		return collector{}, false
	}
	begin := max(comes, s.Open)
	c.stops[c.visits], c.begins[c.visits] = stop, begin
	c.visits++
	c.place, c.minute = stop, begin+s.Stay
	c.driven += drive
	c.cash += s.Cash
	return c, true
}

// tours yields the collector behind each good tour, whole or not.
func (c collector) tours(yield func(collector) bool) {
	c.goOn(yield)
}

// goOn yields the collector behind each good tour that begins with the visits so far; it returns whether more are asked for. None is left out by going on from good tours alone: what a good tour begins with is good.
func (c collector) goOn(yield func(collector) bool) bool {
	if !yield(c) {
		return false
	}
	for stop := range c.Stops {
		if c.visited(stop) {
			continue
		}
		if next, ok := c.visit(stop); ok && !next.goOn(yield) {
			return false
		}
	}
	return true
}

// wholeTours yields the collector behind each whole good tour.
func (c collector) wholeTours(yield func(collector) bool) {
	for behind := range c.tours {
		if behind.visits == len(c.Stops) && !yield(behind) {
			return
		}
	}
}

func (c collector) visited(stop int) bool {
	return slices.Contains(c.stops[:c.visits], stop)
}

// tour returns the stops that were visited, in their order.
func (c collector) tour() []int { return slices.Clone(c.stops[:c.visits]) }

// times returns the minutes in which the visits began, in their order.
func (c collector) times() []int { return slices.Clone(c.begins[:c.visits]) }

// back returns the minute in which the collector comes to the house if there is no other visit.
func (c collector) back() int { return c.minute + c.home() }

// long returns how many minutes the collector drives if there is no other visit.
func (c collector) long() int { return c.driven + c.home() }

// home returns how many minutes it takes to drive to the house.
func (c collector) home() int { return c.Drive[c.place][len(c.Stops)] }
