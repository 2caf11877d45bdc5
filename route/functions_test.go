package route_test

import (
	"slices"
	"testing"

	"shellac/api"
	"shellac/route"
)

// oneWay is a route on which it takes another time to go back: 0 and 1 are near on the way out, far on the way home.
func oneWay() api.Route {
	return newRoute(0, [][]int{{0, 1, 5}, {5, 0, 1}, {1, 5, 0}}, stop(100, 300, 0, 10), stop(0, 300, 50, 20))
}

// around is a route on which the stop 0 closes before the collector can come to it straight from the house, but not if it is by the stop 1.
func around() api.Route {
	return newRoute(0, [][]int{{0, 9, 9}, {5, 0, 9}, {100, 20, 0}}, stop(0, 50, 7, 300), stop(0, 60, 25, 80))
}

// P8.2: the chapter's examples, stops that are not open yet, come to at Open and at Close, and that close meanwhile; ways that are not the same back; the empty tour.
func TestTimesAndBack(t *testing.T) {
	for i, x := range []struct {
		r           api.Route
		tour, times []int
		back        int
	}{
		{routeR(), []int{1, 0, 2}, []int{10, 60, 100}, 160},
		{routeR(), []int{1, 2, 0}, []int{10, 50, 100}, 130},
		{routeR(), nil, nil, 0},
		{routeR(), []int{}, nil, 0},
		{routeR(), []int{0}, []int{60}, 90},
		{routeR(), []int{1}, []int{10}, 25},
		{routeR(), []int{2}, []int{50}, 110},
		{routeR(), []int{2, 0}, []int{50, 100}, 130},
		{with(routeR(), func(r *api.Route) { r.Start = 20 }), []int{1, 0, 2}, []int{30, 60, 100}, 160},
		{with(routeR(), func(r *api.Route) { r.Start = 10 }), []int{1, 2, 0}, []int{20, 50, 100}, 130},
		{with(routeR(), func(r *api.Route) { r.Start = 50 }), []int{0, 2}, []int{70, 110}, 170},
		{with(routeR(), func(r *api.Route) { r.Start = 160 }), []int{2}, []int{200}, 260},
		{with(routeR(), func(r *api.Route) { r.Start = 77 }), nil, nil, 77},
		{oneWay(), []int{0, 1}, []int{100, 101}, 152},
		{oneWay(), []int{1, 0}, []int{5, 100}, 105},
		{around(), []int{1, 0}, []int{20, 50}, 66},
		// it is open for one minute
		{alike(3, 2, stop(5, 5, 4, 0)), []int{0}, []int{5}, 11},
		{alike(2, 2, stop(5, 5, 4, 0)), []int{0}, []int{5}, 11},
		// a visit takes longer than it is open, and than the day
		{alike(0, 9, stop(9, 9, api.MaxDay, 0), stop(0, api.MaxDay, 1, 0)), []int{0}, []int{9}, 9 + api.MaxDay + 9},
		{alike(0, 9, stop(9, 30, 100, 0), stop(118, 118, 50, 0)), []int{0, 1}, []int{9, 118}, 177},
		{alike(api.MaxDay, 0, stop(0, api.MaxDay, api.MaxDay, 0)), []int{0}, []int{api.MaxDay}, 2 * api.MaxDay},
		{alike(100, api.MaxDrive, stop(0, 1099, 0, 0)), []int{0}, []int{1099}, 1099 + api.MaxDrive},
		{widest(), []int{6, 5, 4, 3, 2, 1, 0}, []int{10, 25, 40, 55, 70, 85, 100}, 115},
		{alike(8, 0), nil, nil, 8},
	} {
		times, e := route.Times(x.r, x.tour)
		back, f := route.Back(x.r, x.tour)
		if !slices.Equal(times, x.times) || e != api.OK || back != x.back || f != api.OK {
			t.Errorf("%d: Times of %v = %v, %d; Back = %d, %d", i, x.tour, times, e, back, f)
		}
		if n, e := route.Missed(x.r, x.tour); n != 0 || e != api.ErrNone {
			t.Errorf("%d: Missed of %v = %d, %d", i, x.tour, n, e)
		}
	}
}

// P8.3, P8.2: the chapter's example, the first stop of the tour that is missed and not the least one, a stop come to just after Close; ErrLate from Times and Back.
func TestMissed(t *testing.T) {
	short := alike(5, 5, stop(0, 20, 0, 1), stop(0, 9, 0, 1), stop(0, 14, 0, 1))
	for i, x := range []struct {
		r    api.Route
		tour []int
		want int
	}{
		{routeR(), []int{0, 1, 2}, 1},
		{routeR(), []int{2, 0, 1}, 1},
		{with(routeR(), func(r *api.Route) { r.Start = 21 }), []int{1}, 1},
		{with(routeR(), func(r *api.Route) { r.Start = 21 }), []int{1, 2, 0}, 1},
		{with(routeR(), func(r *api.Route) { r.Start = 11 }), []int{1, 2, 0}, 0},
		{with(routeR(), func(r *api.Route) { r.Start = 161 }), []int{2, 1, 0}, 2},
		{with(routeR(), func(r *api.Route) { r.Start = 161 }), []int{0, 2, 1}, 0},
		{short, []int{1}, 1},
		{short, []int{0, 2, 1}, 2},
		{short, []int{0, 1, 2}, 1},
		{short, []int{2, 0, 1}, 1},
		{with(short, func(r *api.Route) { r.Start = 4 }), []int{1, 2, 0}, -1},
		{with(short, func(r *api.Route) { r.Start = 4 }), []int{2, 1, 0}, 1},
		{with(short, func(r *api.Route) { r.Start = 0 }), []int{2, 0, 1}, 1},
		{around(), []int{0}, 0},
		{around(), []int{0, 1}, 0},
		{with(around(), func(r *api.Route) { r.Stops[1].Stay++ }), []int{1, 0}, 0},
		{alike(4, 2, stop(5, 5, 4, 0)), []int{0}, 0},
		{alike(api.MaxDay, 1, stop(0, api.MaxDay, 0, 0)), []int{0}, 0},
	} {
		want, e := x.want, api.OK
		if x.want < 0 {
			want, e = 0, api.ErrNone
		}
		if n, f := route.Missed(x.r, x.tour); n != want || f != e {
			t.Errorf("%d: Missed of %v = %d, %d", i, x.tour, n, f)
		}
		if e == api.OK {
			all := ofTour(x.r, x.tour)
			checkNone(t, i, x.tour, map[string]answer{"Times": all["Times"], "Back": all["Back"]}, api.ErrLate)
		}
	}
}

// numbers compares a function of a route with what it has to say, -1: ErrNone.
func numbers(t *testing.T, name string, of func(api.Route) (int, api.Errno), r api.Route, want int) {
	t.Helper()
	n, e := of(r)
	if want < 0 && (n != 0 || e != api.ErrNone) || want >= 0 && (n != want || e != api.OK) {
		t.Errorf("%s of %v = %d, %d, not %d", name, r, n, e, want)
	}
}

// checkWay reports a Way that is no whole good tour, or not so long; any such tour will do. Without one (-1), it has to be ErrNone.
func checkWay(t *testing.T, r api.Route, long int) {
	t.Helper()
	way, e := route.Way(r)
	if long < 0 {
		if len(way) > 0 || e != api.ErrNone {
			t.Errorf("Way of %v = %v, %d", r, way, e)
		}
		return
	}
	isTour := slices.ContainsFunc(allTours(len(r.Stops)), func(tour []int) bool { return slices.Equal(tour, way) })
	if e != api.OK || !isTour || len(way) != len(r.Stops) {
		t.Errorf("Way of %v = %v, %d", r, way, e)
		return
	}
	if x := goBy(r, way); !x.isGood() || x.long != long {
		t.Errorf("Way of %v = %v, which is %d long and misses %d; not %d", r, way, x.long, x.missed, long)
	}
}

// P8.4, P8.7, P8.8: the chapter's examples, tours that are back soonest and not shortest, that are shorter but not good, and no stops; ErrNone without a whole good tour.
func TestSoonestAndShortest(t *testing.T) {
	for _, x := range []struct {
		r                 api.Route
		soonest, shortest int // -1: ErrNone
	}{
		{routeR(), 130, 85},
		{with(routeR(), func(r *api.Route) { r.Start = 10 }), 130, 85},
		{with(routeR(), func(r *api.Route) { r.Start = 11 }), 160, 95},
		{with(routeR(), func(r *api.Route) { r.Start = 20 }), 160, 95},
		{with(routeR(), func(r *api.Route) { r.Start = 21 }), -1, -1},
		{with(routeR(), func(r *api.Route) { r.Stops[0].Close = 99 }), 160, 95},
		{with(routeR(), func(r *api.Route) { r.Stops[2].Close = 99; r.Stops[0].Close = 99 }), -1, -1},
		{oneWay(), 105, 3},
		{with(oneWay(), func(r *api.Route) { r.Stops[1].Close = 100 }), 105, 15},
		{with(oneWay(), func(r *api.Route) { r.Stops[0].Close = 100; r.Stops[1].Stay = 100 }), 202, 3},
		{around(), 66, 34},
		{with(around(), func(r *api.Route) { r.Stops[1].Stay = 26 }), -1, -1},
		{alike(20, 10, stop(0, 100, 5, 0)), 45, 20},
		{alike(90, 10, stop(0, 100, 5, 0)), 115, 20},
		{alike(91, 10, stop(0, 100, 5, 0)), -1, -1},
		{alike(20, 10, stop(50, 100, 5, 0)), 65, 20},
		{widest(), 115, 80},
		{with(widest(), func(r *api.Route) { r.Start = 1341 }), -1, -1},
		{alike(0, 0), 0, 0},
		{alike(api.MaxDay, 0), api.MaxDay, 0},
	} {
		numbers(t, "Soonest", route.Soonest, x.r, x.soonest)
		numbers(t, "Shortest", route.Shortest, x.r, x.shortest)
		checkWay(t, x.r, x.shortest)
	}
}

// P8.8: the chapter's example, and other routes with one shortest whole good tour.
func TestWay(t *testing.T) {
	for i, x := range []struct {
		r    api.Route
		want []int
	}{
		{routeR(), []int{1, 2, 0}},
		{with(routeR(), func(r *api.Route) { r.Start = 20 }), []int{1, 0, 2}},
		{oneWay(), []int{0, 1}},
		{with(oneWay(), func(r *api.Route) { r.Stops[1].Close = 100 }), []int{1, 0}},
		{around(), []int{1, 0}},
		{alike(0, 9, stop(0, 9, 0, 0)), []int{0}},
		{alike(0, 0), nil},
	} {
		if way, e := route.Way(x.r); !slices.Equal(way, x.want) || e != api.OK {
			t.Errorf("%d: Way = %v, %d", i, way, e)
		}
	}
}

// P8.5: the chapter's example; whatever Start is; up to MaxDay, down to 0, and ErrNone.
func TestLatest(t *testing.T) {
	for _, x := range []struct {
		r    api.Route
		want int // -1: ErrNone
	}{
		{routeR(), 20},
		{with(routeR(), func(r *api.Route) { r.Start = api.MaxDay }), 20},
		{with(routeR(), func(r *api.Route) { r.Stops[0].Close = 99 }), 20},
		{with(routeR(), func(r *api.Route) { r.Stops[2].Close = 99 }), 10},
		{with(routeR(), func(r *api.Route) { r.Stops[1].Close = 10 }), 0},
		{with(routeR(), func(r *api.Route) { r.Stops[1].Close = 9 }), -1},
		{with(routeR(), func(r *api.Route) { r.Stops[2].Close = 99; r.Stops[0].Close = 99 }), -1},
		{oneWay(), 298},
		{with(oneWay(), func(r *api.Route) { r.Stops[0].Close = 298 }), 297},
		{with(oneWay(), func(r *api.Route) { r.Stops[1].Close = 99 }), 94},
		{around(), 0},
		{with(around(), func(r *api.Route) { r.Stops[0].Close = 49 }), -1},
		{widest(), 1340},
		{alike(0, 0, stop(api.MaxDay, api.MaxDay, 1, 1)), api.MaxDay},
		{alike(0, 1, stop(api.MaxDay, api.MaxDay, 1, 1)), api.MaxDay - 1},
		{alike(0, 0, stop(0, 0, 1, 1)), 0},
		{alike(0, 1, stop(0, 0, 1, 1)), -1},
		{alike(0, 0), api.MaxDay},
		{alike(api.MaxDay, 0), api.MaxDay},
	} {
		numbers(t, "Latest", route.Latest, x.r, x.want)
	}
}

// P8.6: the chapter's example, stops that have to be first, that cannot, all and none; ErrNone without a whole good tour.
func TestFirsts(t *testing.T) {
	// the stop 0 opens late, and the other ones close before it is left
	lateOne := alike(0, 10, stop(50, 100, 0, 1), stop(0, 55, 0, 1), stop(0, 55, 0, 1))
	for i, x := range []struct {
		r    api.Route
		want []int
		e    api.Errno
	}{
		{routeR(), []int{1}, api.OK},
		{with(routeR(), func(r *api.Route) { r.Start = 20 }), []int{1}, api.OK},
		{with(routeR(), func(r *api.Route) { r.Start = 21 }), nil, api.ErrNone},
		{with(routeR(), func(r *api.Route) { r.Stops[1].Close = 125 }), []int{0, 1, 2}, api.OK},
		{with(routeR(), func(r *api.Route) { r.Stops[1].Close = 124 }), []int{0, 1}, api.OK},
		{with(routeR(), func(r *api.Route) { r.Stops[1].Close = 85 }), []int{0, 1}, api.OK},
		{with(routeR(), func(r *api.Route) { r.Stops[1].Close = 84 }), []int{1}, api.OK},
		{lateOne, []int{1, 2}, api.OK},
		{with(lateOne, func(r *api.Route) { r.Stops[2].Close = 60 }), []int{1, 2}, api.OK},
		{with(lateOne, func(r *api.Route) { r.Stops[2].Close = 19 }), []int{2}, api.OK},
		{with(lateOne, func(r *api.Route) { r.Stops[1].Close, r.Stops[2].Close = 60, 70 }), []int{0, 1, 2}, api.OK},
		{oneWay(), []int{0, 1}, api.OK},
		{with(oneWay(), func(r *api.Route) { r.Stops[1].Close = 100 }), []int{1}, api.OK},
		{around(), []int{1}, api.OK},
		{widest(), []int{0, 1, 2, 3, 4, 5, 6}, api.OK},
		{alike(0, 0), nil, api.OK},
		{alike(api.MaxDay, 0), nil, api.OK},
	} {
		if firsts, e := route.Firsts(x.r); !slices.Equal(firsts, x.want) || e != x.e {
			t.Errorf("%d: Firsts = %v, %d", i, firsts, e)
		}
	}
}

// P8.9, P8.10: the chapter's examples, stops that cannot be visited together, one that is come to in time only by another one, and none at all.
func TestMostAndShut(t *testing.T) {
	// both close before the collector can be at the second one
	either := alike(0, 10, stop(0, 15, 0, 70), stop(0, 15, 0, 90), stop(0, 30, 0, 1))
	for i, x := range []struct {
		r    api.Route
		most int
		shut []int
	}{
		{routeR(), 1600, nil},
		{with(routeR(), func(r *api.Route) { r.Start = 20 }), 1600, nil},
		{with(routeR(), func(r *api.Route) { r.Start = 50 }), 1400, []int{1}},
		{with(routeR(), func(r *api.Route) { r.Start = 80 }), 1400, []int{1}},
		{with(routeR(), func(r *api.Route) { r.Start = 81 }), 900, []int{0, 1}},
		{with(routeR(), func(r *api.Route) { r.Start = 160 }), 900, []int{0, 1}},
		{with(routeR(), func(r *api.Route) { r.Start = 161 }), 0, []int{0, 1, 2}},
		{either, 91, nil},
		{with(either, func(r *api.Route) { r.Stops[0].Close = 20 }), 161, nil},
		{with(either, func(r *api.Route) { r.Stops[1].Close = 9 }), 71, []int{1}},
		{with(either, func(r *api.Route) { r.Stops[2].Close = 19 }), 90, nil},
		{with(either, func(r *api.Route) { r.Stops[2].Cash = 0 }), 90, nil},
		{around(), 380, nil},
		{with(around(), func(r *api.Route) { r.Stops[1].Stay = 26 }), 80, []int{0}},
		{with(around(), func(r *api.Route) { r.Stops[1].Close = 19 }), 0, []int{0, 1}},
		{oneWay(), 30, nil},
		{widest(), api.MaxStops * api.MaxCash, nil},
		{alike(1, 0, stop(0, 0, 0, 5)), 0, []int{0}},
		{alike(1, 0, stop(0, 1, 0, 0)), 0, nil},
		{alike(0, 0), 0, nil},
	} {
		numbers(t, "Most", route.Most, x.r, x.most)
		if shut, e := route.Shut(x.r); !slices.Equal(shut, x.shut) || e != api.OK {
			t.Errorf("%d: Shut = %v, %d", i, shut, e)
		}
	}
}

// checkTours compares all that is said of a route with what is seen of its good tours.
func checkTours(t *testing.T, r api.Route, good []trip) {
	t.Helper()
	whole := wholeOf(r, good)
	numbers(t, "Soonest", route.Soonest, r, leastOf(whole, backOf))
	numbers(t, "Shortest", route.Shortest, r, leastOf(whole, longOf))
	checkWay(t, r, leastOf(whole, longOf))
	most := 0
	for _, x := range good {
		most = max(most, cashOf(r, x.tour))
	}
	numbers(t, "Most", route.Most, r, most)
	if shut, e := route.Shut(r); !slices.Equal(shut, shutBy(r, good)) || e != api.OK {
		t.Errorf("Shut of %v = %v, %d, not %v", r, shut, e, shutBy(r, good))
	}
	want, f := firstsBy(r, whole), api.OK
	if len(whole) == 0 {
		f = api.ErrNone
	}
	if firsts, e := route.Firsts(r); !slices.Equal(firsts, want) || e != f {
		t.Errorf("Firsts of %v = %v, %d, not %v, %d", r, firsts, e, want, f)
	}
}

// P8.4, P8.6 to P8.10: all functions say what is seen of all tours, each of them laid out.
func TestAllTours(t *testing.T) {
	for _, x := range []struct {
		l     limits
		count int
	}{{few, 1000}, {tight, 400}, {full, 40}} {
		whole, none, some, shut := 0, 0, 0, 0
		for r := range drawn(x.count, x.l) {
			good := look(r)
			checkTours(t, r, good)
			if len(r.Stops) == 0 {
				continue
			}
			firsts := len(firstsBy(r, wholeOf(r, good)))
			switch {
			case firsts == 0:
				none++
			case firsts < len(r.Stops):
				some++
			default:
				whole++
			}
			if len(shutBy(r, good)) > 0 {
				shut++
			}
		}
		if min(whole, none, some, shut) < x.count/15 {
			t.Errorf("of %d routes with %d stops, %d have a whole good tour with each first stop, %d with some, %d none; of %d a stop is shut", x.count, x.l.stops, whole, some, none, shut)
		}
	}
}

// P8.5: Latest is the greatest number that leaves a whole good tour, each of them tried.
func TestLatestOfAll(t *testing.T) {
	for _, x := range []struct {
		l     limits
		count int
	}{{few, 300}, {tight, 60}} {
		found, none := 0, 0
		for r := range drawn(x.count, x.l) {
			want := latestBy(r)
			numbers(t, "Latest", route.Latest, r, want)
			if want < 0 {
				none++
			} else if want < api.MaxDay {
				found++
			}
		}
		if found < x.count/5 || none < x.count/15 {
			t.Errorf("of %d routes only %d have a Latest, %d none", x.count, found, none)
		}
	}
}

// P8.2, P8.3: Times, Back and Missed say what is seen of each tour, minute by minute.
func TestEachTourByMinute(t *testing.T) {
	for _, l := range []limits{few, tight, full} {
		good, late := 0, 0
		for r, draw := range drawn(150, l) {
			tours := [][]int{nil}
			for range 20 {
				tours = append(tours, drawTour(draw, r))
			}
			for _, tour := range tours {
				x := goBy(r, tour)
				if x.isGood() {
					good++
				} else {
					late++
				}
				checkTrip(t, r, x)
			}
		}
		if good < 300 || late < 300 {
			t.Errorf("only %d tours are good, %d are not", good, late)
		}
	}
}

// checkTrip compares what is said of a tour with what is seen of it.
func checkTrip(t *testing.T, r api.Route, x trip) {
	t.Helper()
	times, e := route.Times(r, x.tour)
	back, f := route.Back(r, x.tour)
	missed, g := route.Missed(r, x.tour)
	if !x.isGood() {
		if len(times) > 0 || e != api.ErrLate || back != 0 || f != api.ErrLate || missed != x.missed || g != api.OK {
			t.Errorf("of %v, %v: Times = %v, %d; Back = %d, %d; Missed = %d, %d, not %d", r, x.tour, times, e, back, f, missed, g, x.missed)
		}
		return
	}
	if !slices.Equal(times, x.times) || e != api.OK || back != x.back || f != api.OK || missed != 0 || g != api.ErrNone {
		t.Errorf("of %v, %v: Times = %v, %d, not %v; Back = %d, %d, not %d; Missed = %d, %d", r, x.tour, times, e, x.times, back, f, x.back, missed, g)
	}
}
