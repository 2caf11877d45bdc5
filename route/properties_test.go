package route_test

import (
	"math/rand/v2"
	"slices"
	"testing"

	"shellac/api"
	"shellac/route"
)

// said is all that is said of a route; -1: ErrNone.
type said struct {
	soonest, latest, shortest, most int
	firsts, shut                    []int
}

// say asks for all of it.
func say(t *testing.T, r api.Route) said {
	t.Helper()
	firsts, e := route.Firsts(r)
	shut, f := route.Shut(r)
	x := said{
		soonest: ask(t, "Soonest", route.Soonest, r), latest: ask(t, "Latest", route.Latest, r),
		shortest: ask(t, "Shortest", route.Shortest, r), most: ask(t, "Most", route.Most, r),
		firsts: firsts, shut: shut,
	}
	want := api.OK
	if x.soonest < 0 {
		want = api.ErrNone
	}
	if e != want || f != api.OK || (x.soonest < 0) != (x.shortest < 0) {
		t.Errorf("of %v: %v; Firsts: %d, Shut: %d", r, x, e, f)
	}
	return x
}

// ask asks a function for its number, -1 if it is ErrNone.
func ask(t *testing.T, name string, of func(api.Route) (int, api.Errno), r api.Route) int {
	t.Helper()
	n, e := of(r)
	switch e {
	case api.OK:
		return n
	case api.ErrNone:
		return -1
	}
	t.Errorf("%s of %v: %d", name, r, e)
	return -1
}

// eachDrawn does something with drawn routes of all sizes, and with what is said of them.
func eachDrawn(t *testing.T, count int, do func(r api.Route, x said, draw *rand.Rand)) {
	t.Helper()
	for _, l := range []limits{few, tight, full} {
		for r, draw := range drawn(count, l) {
			do(r, say(t, r), draw)
		}
	}
}

// someTours are some tours of a route that Missed says are good, the Way among them.
func someTours(t *testing.T, r api.Route, draw *rand.Rand) [][]int {
	t.Helper()
	tours := [][]int{nil}
	for range 20 {
		tours = append(tours, drawTour(draw, r), draw.Perm(len(r.Stops)))
	}
	if way, e := route.Way(r); e == api.OK {
		tours = append(tours, way)
	}
	return slices.DeleteFunc(tours, func(tour []int) bool {
		_, e := route.Missed(r, tour)
		return e != api.ErrNone
	})
}

// back returns Back of a tour that has to be good.
func back(t *testing.T, r api.Route, tour []int) int {
	t.Helper()
	n, e := route.Back(r, tour)
	if e != api.OK {
		t.Errorf("Back of %v, %v: %d", r, tour, e)
	}
	return n
}

// longBy returns how many minutes a tour takes to drive.
func longBy(r api.Route, tour []int) int {
	long, at := 0, len(r.Stops)
	for _, to := range append(slices.Clone(tour), len(r.Stops)) {
		long += r.Drive[at][to]
		at = to
	}
	return long
}

// P8.11 (each tour): each whole good tour is back at Soonest or later, and as long as Shortest or longer; the Cash of each good tour is at most Most, and none of its stops is in Shut.
func TestEachTour(t *testing.T) {
	whole, first := 0, 0
	eachDrawn(t, 120, func(r api.Route, x said, draw *rand.Rand) {
		for _, tour := range someTours(t, r, draw) {
			if cash := cashOf(r, tour); cash > x.most {
				t.Errorf("the cash of %v of %v is %d, Most is %d", tour, r, cash, x.most)
			}
			if slices.ContainsFunc(tour, func(n int) bool { return slices.Contains(x.shut, n) }) {
				t.Errorf("%v of %v is good, but Shut is %v", tour, r, x.shut)
			}
			if len(tour) < len(r.Stops) {
				continue
			}
			whole++
			if n, long := back(t, r, tour), longBy(r, tour); x.soonest < 0 || n < x.soonest || long < x.shortest {
				t.Errorf("%v of %v is back at %d, and %d long; %v", tour, r, n, long, x)
			}
			if len(tour) > 0 {
				first++
				if !slices.Contains(x.firsts, tour[0]) {
					t.Errorf("%v of %v is good, but Firsts is %v", tour, r, x.firsts)
				}
			}
		}
	})
	if whole < 1000 || first < 900 {
		t.Errorf("only %d tours are whole, %d with stops", whole, first)
	}
}

// earlier are routes with more time than another one: an earlier Start, an earlier Open, a later Close, a shorter Stay, a shorter way, as far as there can be.
func earlier(draw *rand.Rand, r api.Route) []api.Route {
	var l []api.Route
	less := func(n int) int { return n - 1 - draw.IntN(n) }
	if r.Start > 0 {
		l = append(l, with(r, func(r *api.Route) { r.Start = less(r.Start) }))
	}
	for i, s := range r.Stops {
		if s.Open > 0 {
			l = append(l, with(r, func(r *api.Route) { r.Stops[i].Open = less(s.Open) }))
		}
		if s.Close < api.MaxDay {
			l = append(l, with(r, func(r *api.Route) { r.Stops[i].Close += 1 + draw.IntN(min(30, api.MaxDay-s.Close)) }))
		}
		if s.Stay > 0 {
			l = append(l, with(r, func(r *api.Route) { r.Stops[i].Stay = less(s.Stay) }))
		}
	}
	for from, minutes := range r.Drive {
		if to := draw.IntN(len(minutes)); minutes[to] > 0 {
			l = append(l, with(r, func(r *api.Route) { r.Drive[from][to] = less(minutes[to]) }))
		}
	}
	return l
}

// noMore returns whether a number is not greater than another one, -1: there is none.
func noMore(n, than int) bool { return than < 0 || n >= 0 && n <= than }

// P8.12 (more time): each good tour is good still, and back not later; Soonest and Shortest are not greater, Latest and Most not less, and nothing comes to Shut.
func TestMoreTime(t *testing.T) {
	found, greater, opened := 0, 0, 0
	eachDrawn(t, 60, func(r api.Route, x said, draw *rand.Rand) {
		good := someTours(t, r, draw)
		for _, more := range earlier(draw, r) {
			for _, tour := range good {
				if a, b := back(t, more, tour), back(t, r, tour); a > b {
					t.Errorf("%v of %v is back at %d, of %v at %d", tour, more, a, r, b)
				}
			}
			y := say(t, more)
			if !noMore(y.soonest, x.soonest) || !noMore(y.shortest, x.shortest) || y.latest < x.latest || y.most < x.most {
				t.Errorf("of %v: %v; of %v: %v", r, x, more, y)
			}
			if slices.ContainsFunc(y.shut, func(n int) bool { return !slices.Contains(x.shut, n) }) {
				t.Errorf("Shut of %v = %v, of %v: %v", r, x.shut, more, y.shut)
			}
			if x.soonest < 0 && y.soonest >= 0 {
				found++
			}
			if y.most > x.most {
				greater++
			}
			if len(y.shut) < len(x.shut) {
				opened++
			}
		}
	})
	if found < 20 || greater < 30 || opened < 30 {
		t.Errorf("only %d routes get a whole good tour, %d have more cash, %d open a stop", found, greater, opened)
	}
}

// P8.13 (later): with a Start up to Latest there is a whole good tour, with a later one there is none.
func TestLater(t *testing.T) {
	between := 0
	eachDrawn(t, 120, func(r api.Route, x said, draw *rand.Rand) {
		if x.latest > 0 && x.latest < api.MaxDay {
			between++
		}
		for _, start := range []int{0, x.latest - 1, x.latest, x.latest + 1, draw.IntN(api.MaxDay + 1), draw.IntN(max(1, x.latest+1)), api.MaxDay} {
			if start < 0 || start > api.MaxDay {
				continue
			}
			y := say(t, with(r, func(r *api.Route) { r.Start = start }))
			if (y.soonest >= 0) != (start <= x.latest) || y.latest != x.latest {
				t.Errorf("Latest of %v is %d, but with the Start %d: %v", r, x.latest, start, y)
			}
		}
	})
	if between < 200 {
		t.Errorf("only %d routes have a Latest that is not at an end", between)
	}
}

// P8.14 (all): there is a whole good tour just if Most is the Cash of all stops, as long as each has more than 0; Firsts is empty just if there are no stops, or an error; if a stop is in Shut, there is no whole good tour.
func TestAll(t *testing.T) {
	whole, part, shut, empty := 0, 0, 0, 0
	eachDrawn(t, 150, func(r api.Route, _ said, draw *rand.Rand) {
		all := 0
		for i := range r.Stops {
			r.Stops[i].Cash = max(1, r.Stops[i].Cash)
			all += r.Stops[i].Cash
		}
		x := say(t, r)
		if (x.soonest >= 0) != (x.most == all) || len(x.shut) > 0 && x.soonest >= 0 {
			t.Errorf("of %v with %d cents: %v", r, all, x)
		}
		if (len(x.firsts) == 0) != (len(r.Stops) == 0 || x.soonest < 0) {
			t.Errorf("Firsts of %v = %v; Soonest = %d", r, x.firsts, x.soonest)
		}
		switch {
		case len(r.Stops) == 0:
			empty++
		case len(x.shut) > 0:
			shut++
		case x.most < all:
			part++
		default:
			whole++
		}
	})
	if whole < 100 || part < 25 || shut < 25 || empty < 10 {
		t.Errorf("only %d routes have a whole good tour, %d a stop that is shut, %d neither; %d no stops", whole, shut, part, empty)
	}
}

// P8.15 (another day): if Start, and each Open and Close, are later by the same number, Soonest and all Times are, too, and Shortest, Most, Firsts and Shut are the same.
func TestAnotherDay(t *testing.T) {
	moved := 0
	eachDrawn(t, 120, func(r api.Route, x said, draw *rand.Rand) {
		end := r.Start
		for _, s := range r.Stops {
			end = max(end, s.Close)
		}
		by := draw.IntN(api.MaxDay - end + 1)
		other := with(r, func(r *api.Route) {
			r.Start += by
			for i := range r.Stops {
				r.Stops[i].Open += by
				r.Stops[i].Close += by
			}
		})
		y := say(t, other)
		if x.soonest >= 0 {
			moved++
			x.soonest += by
		}
		if y.soonest != x.soonest || y.shortest != x.shortest || y.most != x.most || !slices.Equal(y.firsts, x.firsts) || !slices.Equal(y.shut, x.shut) {
			t.Errorf("of %v: %v; %d later: %v", r, x, by, y)
		}
		for _, tour := range someTours(t, r, draw) {
			before, _ := route.Times(r, tour)
			after, e := route.Times(other, tour)
			for i := range before {
				before[i] += by
			}
			if !slices.Equal(after, before) || e != api.OK || back(t, other, tour) != back(t, r, tour)+by {
				t.Errorf("%v of %v begins at %v, %d, not %v", tour, other, after, e, before)
			}
		}
	})
	if moved < 150 {
		t.Errorf("only %d routes with a whole good tour", moved)
	}
}

// shuffled returns a route with its stops in another order, and with their ways; for each place there is the number that it had.
func shuffled(draw *rand.Rand, r api.Route) (other api.Route, order []int) {
	house := len(r.Stops)
	order = append(draw.Perm(house), house)
	other = copied(r)
	for to, from := range order {
		if to < house {
			other.Stops[to] = r.Stops[from]
		}
		for place, old := range order {
			other.Drive[to][place] = r.Drive[from][old]
		}
	}
	return other, order
}

// placesOf returns the new numbers of stops, in the order of the old ones.
func placesOf(order, stops []int) []int {
	var places []int
	for _, n := range stops {
		places = append(places, slices.Index(order, n))
	}
	return places
}

// P8.16 (any order): if stops come in another order (with their ways), all is the same, but for their numbers.
func TestAnyOrder(t *testing.T) {
	eachDrawn(t, 120, func(r api.Route, x said, draw *rand.Rand) {
		other, order := shuffled(draw, r)
		y := say(t, other)
		firsts, shut := slices.Sorted(slices.Values(placesOf(order, x.firsts))), slices.Sorted(slices.Values(placesOf(order, x.shut)))
		if y.soonest != x.soonest || y.latest != x.latest || y.shortest != x.shortest || y.most != x.most || !slices.Equal(y.firsts, firsts) || !slices.Equal(y.shut, shut) {
			t.Errorf("of %v: %v; of %v: %v", r, x, other, y)
		}
		checkWay(t, other, x.shortest)
		for range 10 {
			tour := drawTour(draw, r)
			a, e := route.Times(r, tour)
			b, f := route.Times(other, placesOf(order, tour))
			m, g := route.Missed(r, tour)
			n, h := route.Missed(other, placesOf(order, tour))
			if !slices.Equal(a, b) || e != f || g != h || g == api.OK && order[n] != m {
				t.Errorf("%v of %v: %v, %d; %d, %d; in the other order %v: %v, %d; %d, %d", tour, r, a, e, m, g, order, b, f, n, h)
			}
		}
	})
}
