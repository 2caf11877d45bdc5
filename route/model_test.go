package route_test

import (
	"iter"
	"math/rand/v2"
	"slices"

	"shellac/api"
)

// This file is a second look at routes, on which a collector goes minute by minute, and for which all tours are laid out: the tests compare the package with it.

// routeR is the route of the chapter's examples.
func routeR() api.Route {
	return newRoute(0, [][]int{{0, 15, 30, 20}, {15, 0, 25, 10}, {30, 25, 0, 40}, {20, 10, 40, 0}},
		stop(60, 100, 10, 500), stop(0, 30, 5, 200), stop(50, 200, 20, 900))
}

func newRoute(start int, drive [][]int, stops ...api.RouteStop) api.Route {
	return api.Route{Stops: stops, Drive: drive, Start: start}
}

func stop(open, close, stay, cash int) api.RouteStop {
	return api.RouteStop{Open: open, Close: close, Stay: stay, Cash: cash}
}

// alike returns a route on which it takes the same time from each place to each other one.
func alike(start, minutes int, stops ...api.RouteStop) api.Route {
	r := newRoute(start, nil, stops...)
	for from := range len(stops) + 1 {
		r.Drive = append(r.Drive, slices.Repeat([]int{minutes}, len(stops)+1))
		r.Drive[from][from] = 0
	}
	return r
}

// widest is a route with all that the limits allow, of which each tour is good.
func widest() api.Route {
	return alike(0, 10, slices.Repeat([]api.RouteStop{stop(0, api.MaxDay, 5, api.MaxCash)}, api.MaxStops)...)
}

// with returns a route with something changed.
func with(r api.Route, change func(r *api.Route)) api.Route {
	r = copied(r)
	change(&r)
	return r
}

// copied returns a route that shares no memory with another one.
func copied(r api.Route) api.Route {
	r.Stops, r.Drive = slices.Clone(r.Stops), slices.Clone(r.Drive)
	for i, l := range r.Drive {
		r.Drive[i] = slices.Clone(l)
	}
	return r
}

// trip is what is seen of a tour.
type trip struct {
	tour, times []int
	back, long  int
	missed      int // -1: none is, the tour is good
}

// goBy goes a tour minute by minute, up to the first stop that is missed.
func goBy(r api.Route, tour []int) trip {
	x := trip{tour: tour, missed: -1}
	house := len(r.Stops)
	clock, at := r.Start, house
	drive := func(to int) {
		for range r.Drive[at][to] {
			clock++
			x.long++
		}
		at = to
	}
	for _, to := range tour {
		drive(to)
		if s := r.Stops[to]; clock > s.Close {
			x.missed = to
			return x
		}
		for clock < r.Stops[to].Open {
			clock++
		}
		x.times = append(x.times, clock)
		for range r.Stops[to].Stay {
			clock++
		}
	}
	drive(house)
	x.back = clock
	return x
}

func (x trip) isGood() bool { return x.missed < 0 }

// allTours are all tours of a route with so many stops, whether they are good or not.
func allTours(stops int) [][]int {
	all := [][]int{nil}
	for i := 0; i < len(all); i++ {
		for n := range stops {
			if !slices.Contains(all[i], n) {
				all = append(all, append(slices.Clone(all[i]), n))
			}
		}
	}
	return all
}

// look returns what is seen of all good tours of a route.
func look(r api.Route) []trip {
	var good []trip
	for _, tour := range allTours(len(r.Stops)) {
		if x := goBy(r, tour); x.isGood() {
			good = append(good, x)
		}
	}
	return good
}

// wholeOf returns those of some trips that are whole.
func wholeOf(r api.Route, trips []trip) []trip {
	var whole []trip
	for _, x := range trips {
		if len(x.tour) == len(r.Stops) {
			whole = append(whole, x)
		}
	}
	return whole
}

// leastOf returns the least number of some trips, -1 if there are none.
func leastOf(trips []trip, number func(trip) int) int {
	least := -1
	for _, x := range trips {
		if n := number(x); least < 0 || n < least {
			least = n
		}
	}
	return least
}

func backOf(x trip) int { return x.back }

func longOf(x trip) int { return x.long }

// cashOf returns the cash of all stops of a tour.
func cashOf(r api.Route, tour []int) int {
	cents := 0
	for _, n := range tour {
		cents += r.Stops[n].Cash
	}
	return cents
}

// firstsBy returns the stops with which some trips begin, ascending.
func firstsBy(r api.Route, trips []trip) []int {
	var firsts []int
	for n := range r.Stops {
		if slices.ContainsFunc(trips, func(x trip) bool { return x.tour[0] == n }) {
			firsts = append(firsts, n)
		}
	}
	return firsts
}

// shutBy returns the stops that are in none of some trips, ascending.
func shutBy(r api.Route, trips []trip) []int {
	var shut []int
	for n := range r.Stops {
		if !slices.ContainsFunc(trips, func(x trip) bool { return slices.Contains(x.tour, n) }) {
			shut = append(shut, n)
		}
	}
	return shut
}

// leaves returns whether some number as Start leaves a whole good tour.
func leaves(r api.Route, start int) bool {
	r.Start = start
	for _, tour := range allTours(len(r.Stops)) {
		if len(tour) == len(r.Stops) && goBy(r, tour).isGood() {
			return true
		}
	}
	return false
}

// latestBy returns the greatest Start with a whole good tour, each number tried from MaxDay on, -1 if there is none.
func latestBy(r api.Route) int {
	start := api.MaxDay
	for start >= 0 && !leaves(r, start) {
		start--
	}
	return start
}

// limits is what drawn routes have at most: stops, the minute of a day in which one opens and for how long it is open, and the minutes of the ways and visits.
type limits struct{ stops, day, open, drive, stay int }

var (
	// few are routes with few stops, on which often several tours are alike.
	few = limits{stops: 3, day: 20, open: 9, drive: 12, stay: 9}
	// tight are routes on which it matters in which order the stops are visited.
	tight = limits{stops: 5, day: 60, open: 60, drive: 60, stay: 20}
	// full are routes up to the limits.
	full = limits{stops: api.MaxStops, day: 900, open: api.MaxDay, drive: api.MaxDrive, stay: 200}
)

// drawn are so many routes, the same ones in each run.
func drawn(count int, l limits) iter.Seq2[api.Route, *rand.Rand] {
	return func(yield func(api.Route, *rand.Rand) bool) {
		draw := rand.New(rand.NewPCG(8, uint64(1000*l.stops+l.drive)))
		for range count {
			if !yield(drawRoute(draw, l), draw) {
				return
			}
		}
	}
}

// drawRoute draws a route, most often with some stops and short ways; a few ways are long, so that it is shorter by another place.
func drawRoute(draw *rand.Rand, l limits) api.Route {
	r := api.Route{Start: draw.IntN(l.day/3 + 1)}
	for range max(draw.IntN(l.stops+1), draw.IntN(l.stops+1)) {
		open := draw.IntN(l.day + 1)
		end := min(api.MaxDay, open+draw.IntN(l.open+1)+draw.IntN(2)*draw.IntN(l.open+1))
		r.Stops = append(r.Stops, stop(open, end, draw.IntN(l.stay+1), draw.IntN(5)*draw.IntN(api.MaxCash/4+1)))
	}
	places := len(r.Stops) + 1
	for from := range places {
		r.Drive = append(r.Drive, make([]int, places))
		for to := range places {
			if from == to {
				continue
			}
			r.Drive[from][to] = draw.IntN(l.drive/5 + 1)
			if draw.IntN(4) == 0 {
				r.Drive[from][to] = draw.IntN(l.drive + 1)
			}
		}
	}
	return r
}

// drawTour draws a tour of a route, which is good or not.
func drawTour(draw *rand.Rand, r api.Route) []int {
	return draw.Perm(len(r.Stops))[:draw.IntN(len(r.Stops)+1)]
}
