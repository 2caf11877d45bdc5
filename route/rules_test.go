package route_test

import (
	"fmt"
	"math"
	"slices"
	"testing"

	"shellac/api"
	"shellac/route"
)

// answers returns all that the functions say of arguments, as one text.
func answers(r api.Route, tour []int) string {
	text := fmt.Sprint(route.Check(r))
	for _, of := range []func(api.Route, []int) (int, api.Errno){
		route.Back, route.Missed,
		func(r api.Route, _ []int) (int, api.Errno) { return route.Soonest(r) },
		func(r api.Route, _ []int) (int, api.Errno) { return route.Latest(r) },
		func(r api.Route, _ []int) (int, api.Errno) { return route.Shortest(r) },
		func(r api.Route, _ []int) (int, api.Errno) { return route.Most(r) },
	} {
		n, e := of(r, tour)
		text += fmt.Sprint(";", n, e)
	}
	for _, of := range lists() {
		l, e := of(r, tour)
		text += fmt.Sprint(";", l, e)
	}
	return text
}

// lists are the functions that return a list.
func lists() []func(api.Route, []int) ([]int, api.Errno) {
	return []func(api.Route, []int) ([]int, api.Errno){
		route.Times,
		func(r api.Route, _ []int) ([]int, api.Errno) { return route.Firsts(r) },
		func(r api.Route, _ []int) ([]int, api.Errno) { return route.Way(r) },
		func(r api.Route, _ []int) ([]int, api.Errno) { return route.Shut(r) },
	}
}

// P1: every function returns, whatever it is given.
func TestAnyArguments(t *testing.T) {
	wild := []api.Route{
		newRoute(math.MaxInt, [][]int{{0, math.MaxInt}, {math.MaxInt, 0}}, stop(math.MinInt, math.MaxInt, math.MaxInt, math.MinInt)),
		newRoute(math.MinInt, [][]int{{math.MinInt}}),
		{Stops: make([]api.RouteStop, 1000), Drive: slices.Repeat([][]int{make([]int, 1001)}, 1001)},
		{Stops: make([]api.RouteStop, api.MaxStops), Drive: make([][]int, api.MaxStops)},
		{Stops: make([]api.RouteStop, api.MaxStops), Drive: make([][]int, api.MaxStops+1)},
	}
	tours := slices.Concat(badTours(), late(), [][]int{nil, {}, {0}, {1, 0, 2}, {6, 5, 4, 3, 2, 1, 0}, slices.Repeat([]int{math.MaxInt}, 100)})
	for _, r := range slices.Concat(validRoutes(), invalidRoutes(), wild) {
		for _, tour := range tours {
			ofTour(r, tour)
		}
		answers(r, nil)
	}
}

// P1: the greatest routes are done in time, and no number is too great.
func TestGreatestArguments(t *testing.T) {
	r := alike(0, api.MaxDrive, slices.Repeat([]api.RouteStop{stop(api.MaxDay, api.MaxDay, api.MaxDay, api.MaxCash)}, api.MaxStops)...)
	if x := say(t, r); x.soonest != -1 || x.latest != -1 || x.most != api.MaxCash || len(x.shut) > 0 {
		t.Errorf("of %v: %v", r, x)
	}
	if n := back(t, r, []int{6}); n != 2*api.MaxDay+api.MaxDrive {
		t.Errorf("Back of %v = %d", r, n)
	}
	r = alike(0, 0, slices.Repeat([]api.RouteStop{stop(api.MaxDay, api.MaxDay, 0, api.MaxCash)}, api.MaxStops)...)
	if x := say(t, r); x.soonest != api.MaxDay || x.latest != api.MaxDay || x.shortest != 0 || x.most != api.MaxStops*api.MaxCash || len(x.firsts) != api.MaxStops {
		t.Errorf("of %v: %v", r, x)
	}
}

// R3: nil and empty lists are the same.
func TestNilAndEmpty(t *testing.T) {
	for _, x := range [][2]api.Route{
		{{}, {Stops: []api.RouteStop{}, Drive: [][]int{}}},
		{{Drive: [][]int{nil}}, {Stops: []api.RouteStop{}, Drive: [][]int{{}}}},
		{{Drive: [][]int{{0}}, Start: 4}, {Stops: []api.RouteStop{}, Drive: [][]int{{0}}, Start: 4}},
		{routeR(), routeR()},
	} {
		for _, r := range x {
			if a, b := answers(x[0], nil), answers(r, []int{}); a != b {
				t.Errorf("nil: %s; empty: %s", a, b)
			}
		}
	}
}

// spoil writes over a list, and over the memory behind it.
func spoil(list []int) {
	list = list[:cap(list)]
	for i := range list {
		list[i] = 99
	}
}

// roomy returns a copy of a list with memory behind it.
func roomy[T any](list []T) []T {
	return append(slices.Clone(list), make([]T, 2)...)[:len(list)]
}

// roomyRoute returns a copy of a route with memory behind its lists.
func roomyRoute(r api.Route) api.Route {
	r.Stops, r.Drive = roomy(r.Stops), roomy(r.Drive)
	for i, l := range r.Drive {
		r.Drive[i] = roomy(l)
	}
	return r
}

// whole is a text of a route and a tour, with the memory behind their lists.
func whole(r api.Route, tour []int) string {
	text := fmt.Sprint(r.Stops[:cap(r.Stops)], r.Start, tour[:cap(tour)])
	for _, l := range r.Drive[:cap(r.Drive)] {
		text += fmt.Sprint(";", l[:cap(l)])
	}
	return text
}

// R4: no argument is changed, nor the memory behind it, also if a result is changed.
func TestArgumentsStay(t *testing.T) {
	for d, draw := range drawn(100, tight) {
		r := roomyRoute(d)
		tour := roomy(drawTour(draw, r))
		text := whole(r, tour)
		answers(r, tour)
		for _, of := range lists() {
			l, _ := of(r, tour)
			spoil(l)
		}
		if after := whole(r, tour); after != text {
			t.Errorf("changed from %s to %s", text, after)
		}
	}
}

// R4: a result is new memory each time.
func TestResultsAreNew(t *testing.T) {
	r := with(routeR(), func(r *api.Route) { r.Stops = append(r.Stops[:2:2], stop(0, 39, 0, 1)) })
	for i, x := range []struct {
		r     api.Route
		wants [][]int
	}{
		{routeR(), [][]int{{10, 60, 100}, {1}, {1, 2, 0}, nil}},
		{r, [][]int{nil, nil, nil, {2}}},
	} {
		for n, of := range lists() {
			for range 2 {
				l, _ := of(x.r, []int{1, 0, 2})
				if !slices.Equal(l, x.wants[n]) {
					t.Errorf("%d: %d says %v, not %v", i, n, l, x.wants[n])
				}
				spoil(l)
			}
		}
	}
}

// No state is kept: what was asked before changes no answer.
func TestNoState(t *testing.T) {
	a, b := answers(routeR(), []int{1, 0, 2}), answers(around(), []int{1, 0})
	if a == b {
		t.Errorf("two routes answer the same: %s", a)
	}
	if again := answers(routeR(), []int{1, 0, 2}); again != a {
		t.Errorf("first %s, then %s", a, again)
	}
	if again := answers(around(), []int{1, 0}); again != b {
		t.Errorf("first %s, then %s", b, again)
	}
}
