package route_test

import (
	"math"
	"slices"
	"testing"

	"shellac/api"
	"shellac/route"
)

func validRoutes() []api.Route {
	return []api.Route{
		routeR(), widest(), alike(0, 0), alike(api.MaxDay, 0),
		newRoute(0, [][]int{{0}}),
		newRoute(3, [][]int{{0, 0}, {0, 0}}, stop(0, 0, 0, 0)),
		newRoute(0, [][]int{{0, api.MaxDrive}, {api.MaxDrive, 0}}, stop(api.MaxDay, api.MaxDay, api.MaxDay, api.MaxCash)),
		newRoute(0, [][]int{{0, 1}, {api.MaxDrive, 0}}, stop(7, 7, 0, 1)),
		alike(api.MaxDay, api.MaxDrive, slices.Repeat([]api.RouteStop{stop(0, 0, api.MaxDay, 0)}, api.MaxStops)...),
		with(routeR(), func(r *api.Route) { r.Stops[1] = r.Stops[0] }),
		with(routeR(), func(r *api.Route) { r.Start = api.MaxDay }),
	}
}

func invalidRoutes() []api.Route {
	l := []api.Route{
		// too much, or too little, of something
		{}, {Drive: [][]int{}}, {Drive: [][]int{nil}}, {Drive: [][]int{{}}}, {Stops: make([]api.RouteStop, 1)},
		newRoute(0, [][]int{{0, 0}}), newRoute(0, [][]int{{0}, {0}}), newRoute(0, [][]int{{0, 0}, {0, 0}}),
		newRoute(0, [][]int{{0}}, stop(0, 0, 0, 0)),
		alike(0, 1, make([]api.RouteStop, api.MaxStops+1)...),
		{Stops: make([]api.RouteStop, 1000), Drive: make([][]int, 1001)},
		{Drive: make([][]int, 1000)}, {Drive: [][]int{make([]int, 1000)}},
		with(routeR(), func(r *api.Route) { r.Stops = nil }),
		with(routeR(), func(r *api.Route) { r.Stops = r.Stops[:2] }),
		with(routeR(), func(r *api.Route) { r.Stops = append(r.Stops, stop(0, 1, 1, 1)) }),
		with(routeR(), func(r *api.Route) { r.Drive = nil }),
		with(routeR(), func(r *api.Route) { r.Drive = r.Drive[:3] }),
		with(routeR(), func(r *api.Route) { r.Drive = append(r.Drive, []int{1, 1, 1, 1}) }),
		with(routeR(), func(r *api.Route) { r.Drive[0] = nil }),
		with(routeR(), func(r *api.Route) { r.Drive[1] = r.Drive[1][:3] }),
		with(routeR(), func(r *api.Route) { r.Drive[3] = r.Drive[3][:3] }),
		with(routeR(), func(r *api.Route) { r.Drive[2] = append(r.Drive[2], 0) }),
		// a stop that closes before it opens
		with(routeR(), func(r *api.Route) { r.Stops[0].Close = r.Stops[0].Open - 1 }),
		with(routeR(), func(r *api.Route) { r.Stops[2].Open = r.Stops[2].Close + 1 }),
		with(routeR(), func(r *api.Route) { r.Stops[2].Open, r.Stops[2].Close = api.MaxDay+1, api.MaxDay+1 }),
		// a way from a place to itself
		with(routeR(), func(r *api.Route) { r.Drive[0][0] = 1 }),
		with(routeR(), func(r *api.Route) { r.Drive[2][2] = -1 }),
		with(routeR(), func(r *api.Route) { r.Drive[3][3] = 5 }),
		newRoute(0, [][]int{{1}}),
	}
	for _, n := range []int{-1, math.MinInt, api.MaxDay + 1, math.MaxInt} {
		l = append(l,
			with(routeR(), func(r *api.Route) { r.Start = n }),
			with(routeR(), func(r *api.Route) { r.Stops[0].Open = n }),
			with(routeR(), func(r *api.Route) { r.Stops[1].Close = n }),
			with(routeR(), func(r *api.Route) { r.Stops[1].Open, r.Stops[1].Close = n, n }),
			with(routeR(), func(r *api.Route) { r.Stops[2].Stay = n }))
	}
	for _, n := range []int{-1, math.MinInt, api.MaxCash + 1, math.MaxInt} {
		l = append(l, with(routeR(), func(r *api.Route) { r.Stops[0].Cash = n }), with(routeR(), func(r *api.Route) { r.Stops[2].Cash = n }))
	}
	for _, n := range []int{-1, math.MinInt, api.MaxDrive + 1, math.MaxInt} {
		l = append(l,
			with(routeR(), func(r *api.Route) { r.Drive[0][1] = n }),
			with(routeR(), func(r *api.Route) { r.Drive[3][0] = n }),
			with(routeR(), func(r *api.Route) { r.Drive[2][3] = n }))
	}
	return l
}

// badTours are lists that are no tours of R.
func badTours() [][]int {
	l := [][]int{{1, 1}, {0, 1, 0}, {2, 1, 1}, {1, 0, 2, 1}, {0, 1, 2, 3}, {3}, {1, 3}, make([]int, 1000)}
	for _, n := range []int{-1, math.MinInt, math.MaxInt} {
		l = append(l, []int{n}, []int{1, n}, []int{n, 1}, []int{1, 0, n})
	}
	return l
}

// late are tours of R that are not good.
func late() [][]int { return [][]int{{0, 1}, {2, 1}, {0, 1, 2}, {2, 1, 0}, {0, 2, 1}, {2, 0, 1}} }

// answer is the error of a function, and whether all its other results are zero values.
type answer struct {
	e    api.Errno
	zero bool
}

// ofTour asks the functions that are given a tour.
func ofTour(r api.Route, tour []int) map[string]answer {
	times, e := route.Times(r, tour)
	back, f := route.Back(r, tour)
	missed, g := route.Missed(r, tour)
	return map[string]answer{"Times": {e, len(times) == 0}, "Back": {f, back == 0}, "Missed": {g, missed == 0}}
}

// ofWhole asks the functions that are ErrNone without a whole good tour.
func ofWhole(r api.Route) map[string]answer {
	soonest, e := route.Soonest(r)
	firsts, f := route.Firsts(r)
	shortest, g := route.Shortest(r)
	way, h := route.Way(r)
	return map[string]answer{
		"Soonest": {e, soonest == 0}, "Firsts": {f, len(firsts) == 0},
		"Shortest": {g, shortest == 0}, "Way": {h, len(way) == 0},
	}
}

// ofOther asks the other functions that are given the route alone.
func ofOther(r api.Route) map[string]answer {
	latest, e := route.Latest(r)
	most, f := route.Most(r)
	shut, g := route.Shut(r)
	return map[string]answer{"Latest": {e, latest == 0}, "Most": {f, most == 0}, "Shut": {g, len(shut) == 0}}
}

// checkNone reports an answer that has not the error, or that says something nevertheless.
func checkNone(t *testing.T, i int, asked any, all map[string]answer, want api.Errno) {
	t.Helper()
	for name, a := range all {
		if a.e != want || !a.zero {
			t.Errorf("%d, %v: %s: %d, zero: %t; not %d", i, asked, name, a.e, a.zero, want)
		}
	}
}

// P8.1: which routes are valid.
func TestCheck(t *testing.T) {
	for i, r := range validRoutes() {
		if e := route.Check(r); e != api.OK {
			t.Errorf("valid route %d: Check = %d", i, e)
		}
	}
	for i, r := range invalidRoutes() {
		if e := route.Check(r); e != api.ErrRoute {
			t.Errorf("invalid route %d: Check = %d", i, e)
		}
	}
	for _, l := range []limits{few, tight, full} {
		for r := range drawn(200, l) {
			if e := route.Check(r); e != api.OK {
				t.Errorf("Check of %v = %d", r, e)
			}
		}
	}
}

// P8.1, R1, R2: an invalid route comes before a list that is no tour of it, and before ErrLate and ErrNone; nothing else is said of it.
func TestInvalidRouteComesFirst(t *testing.T) {
	for i, r := range invalidRoutes() {
		checkNone(t, i, nil, ofWhole(r), api.ErrRoute)
		checkNone(t, i, nil, ofOther(r), api.ErrRoute)
		for _, tour := range slices.Concat(badTours(), late(), [][]int{nil, {}, {0}, {1, 0, 2}}) {
			checkNone(t, i, tour, ofTour(r, tour), api.ErrRoute)
		}
	}
}

// P8.2, P8.3: the lists that are no tours of a route.
func TestNoTours(t *testing.T) {
	for i, tour := range badTours() {
		checkNone(t, i, tour, ofTour(routeR(), tour), api.ErrArg)
	}
	for i, r := range validRoutes() {
		for _, n := range []int{len(r.Stops), -1, math.MinInt, math.MaxInt} {
			checkNone(t, i, n, ofTour(r, []int{n}), api.ErrArg)
		}
		for n := range r.Stops {
			checkNone(t, i, n, ofTour(r, []int{n, n}), api.ErrArg)
			for name, a := range ofTour(r, []int{n}) {
				if a.e == api.ErrArg {
					t.Errorf("%d: %s of the tour %d: ErrArg", i, name, n)
				}
			}
		}
	}
}

// P8.2, P8.3, R1: ErrArg comes before ErrLate, also if a stop is missed before what makes the list no tour.
func TestNoTourComesBeforeLate(t *testing.T) {
	for i, tour := range late() {
		all := ofTour(routeR(), tour)
		checkNone(t, i, tour, map[string]answer{"Times": all["Times"], "Back": all["Back"]}, api.ErrLate)
		if e := all["Missed"].e; e != api.OK {
			t.Errorf("%v: Missed: %d", tour, e)
		}
		for _, n := range []int{tour[0], tour[1], 3, -1, math.MinInt, math.MaxInt} {
			list := append(slices.Clone(tour), n)
			checkNone(t, i, list, ofTour(routeR(), list), api.ErrArg)
		}
	}
}

// P8.4, P8.6 to P8.10: without a whole good tour some functions are ErrNone; Most and Shut are not.
func TestNoWholeTour(t *testing.T) {
	for i, r := range []api.Route{
		with(routeR(), func(r *api.Route) { r.Start = 21 }),
		with(routeR(), func(r *api.Route) { r.Start = api.MaxDay }),
		with(routeR(), func(r *api.Route) { r.Stops[1].Close = 9 }),
		newRoute(1, [][]int{{0, 0}, {0, 0}}, stop(0, 0, 0, 0)),
		alike(api.MaxDay, api.MaxDrive, slices.Repeat([]api.RouteStop{stop(0, 0, api.MaxDay, 0)}, api.MaxStops)...),
	} {
		checkNone(t, i, r, ofWhole(r), api.ErrNone)
		all := ofOther(r)
		if all["Most"].e != api.OK || all["Shut"].e != api.OK {
			t.Errorf("%v: %v", r, all)
		}
	}
}

// P8.4 to P8.10: all is said of a route with a whole good tour.
func TestWholeTour(t *testing.T) {
	for i, r := range []api.Route{routeR(), widest(), alike(5, 0), newRoute(3, [][]int{{0, 0}, {0, 0}}, stop(0, 3, 0, 0))} {
		for _, all := range []map[string]answer{ofWhole(r), ofOther(r)} {
			for name, a := range all {
				if a.e != api.OK {
					t.Errorf("%d: %s: %d", i, name, a.e)
				}
			}
		}
	}
}
