package charts_test

import (
	"math"
	"slices"
	"testing"

	"shellac/api"
	"shellac/charts"
)

// ordinary is an ordinary chart: two titles, whose meters have two weeks and three ones.
func ordinary() api.Chart {
	c := newChart(1, 2, read(newMeter(span(0, 9), span(3, 5)), 0, 7), newMeter(span(1, 2), span(2, 4), span(0, 300)))
	c.Extra = []int{4, 5}
	return c
}

func validCharts() []api.Chart {
	return []api.Chart{
		chartC(), ordinary(), widest(), newChart(0, 0), newChart(0, api.MaxMeterWeeks),
		newChart(api.MaxMeterWeeks, api.MaxMeterWeeks), newChart(2, 3),
		{Meters: []api.Meter{}, Extra: []int{}},
		newChart(0, 0, api.Meter{}), newChart(0, 0, api.Meter{Wrong: api.MaxReads}),
		with(ordinary(), func(c *api.Chart) { c.Extra = []int{0, api.MaxExtra} }),
		with(ordinary(), func(c *api.Chart) { c.From, c.To = 0, 0 }),
		with(ordinary(), func(c *api.Chart) { c.From, c.To = 0, 2 }),
		with(ordinary(), func(c *api.Chart) { c.From, c.To = 2, 2 }),
		with(widest(), func(c *api.Chart) { c.From = api.MaxMeterWeeks }),
	}
}

func invalidCharts() []api.Chart {
	wide := widest()
	l := []api.Chart{
		newChart(0, 0, make([]api.Meter, api.MaxChart+1)...),
		newChart(0, 5, append(wide.Meters, wide.Meters[0])...),
		with(ordinary(), func(c *api.Chart) { c.Extra = nil }),
		with(ordinary(), func(c *api.Chart) { c.Extra = c.Extra[:1] }),
		with(ordinary(), func(c *api.Chart) { c.Extra = append(c.Extra, 0) }),
		{Extra: []int{0}},
		{Meters: make([]api.Meter, 1000), Extra: make([]int, 1000)},
		{Meters: make([]api.Meter, 1), Extra: make([]int, 1000)},
		// meters that are not valid, the last one behind one without a truth
		with(ordinary(), func(c *api.Chart) { c.Meters[0].Wrong = -1 }),
		with(ordinary(), func(c *api.Chart) { c.Meters[1].Wrong = api.MaxReads + 1 }),
		with(ordinary(), func(c *api.Chart) { c.Meters[1].Weeks[2].High = api.MaxTurns + 1 }),
		with(ordinary(), func(c *api.Chart) { c.Meters[0].Readings[0].Shown = 100 }),
		with(ordinary(), func(c *api.Chart) { c.Meters[0] = read(c.Meters[0], 0, 8); c.Meters[1].Wrong = -1 }),
		// weeks that are not there for one of the meters, or for none
		with(ordinary(), func(c *api.Chart) { c.To = 3 }),
		with(ordinary(), func(c *api.Chart) { c.From, c.To = 3, 3 }),
		with(ordinary(), func(c *api.Chart) { c.To = 4 }),
		with(ordinary(), func(c *api.Chart) { c.From, c.To = 2, 1 }),
		newChart(0, 1, api.Meter{}),
		newChart(1, 0), newChart(5, 4),
		newChart(math.MinInt, math.MaxInt),
	}
	for _, n := range []int{-1, math.MinInt, api.MaxExtra + 1, math.MaxInt} {
		l = append(l,
			with(ordinary(), func(c *api.Chart) { c.Extra[0] = n }),
			with(ordinary(), func(c *api.Chart) { c.Extra[1] = n }))
	}
	for _, n := range []int{-1, math.MinInt, api.MaxMeterWeeks + 1, math.MaxInt} {
		l = append(l,
			newChart(n, 5), newChart(0, n), newChart(n, n),
			with(ordinary(), func(c *api.Chart) { c.From = n }),
			with(ordinary(), func(c *api.Chart) { c.To = n }),
			with(ordinary(), func(c *api.Chart) { c.From, c.To = n, n }))
	}
	return l
}

// withoutTruth are charts one meter of which has no truth, at least.
func withoutTruth() []api.Chart {
	return []api.Chart{
		with(chartC(), func(c *api.Chart) { c.Meters[0] = read(c.Meters[0], 2, 40) }),
		with(chartC(), func(c *api.Chart) { c.Meters[2] = read(c.Meters[2], 0, 0, 1, 1) }),
		with(ordinary(), func(c *api.Chart) { c.Meters[0] = read(c.Meters[0], 0, 8) }),
		// what is read wrongly behind the weeks that count
		with(ordinary(), func(c *api.Chart) { c.From, c.To = 0, 0; c.Meters[1] = read(c.Meters[1], 0, 0, 1, 3) }),
		newChart(0, 0, read(api.Meter{}, 0, 1, 0, 2)),
		newChart(0, 0, slices.Repeat([]api.Meter{read(api.Meter{}, 0, 1, 0, 2)}, api.MaxChart)...),
	}
}

// outside are numbers that are never those of a title, and no ranks.
func outside() []int { return []int{-1, math.MinInt, api.MaxChart + 1, math.MaxInt} }

// answer is the error of a function, and whether all its other results are zero values.
type answer struct {
	e    api.Errno
	zero bool
}

// ofTitle asks the functions that are given a title alone.
func ofTitle(c api.Chart, title int) map[string]answer {
	l, e := charts.Numbers(c, title)
	s, f := charts.Rank(c, title)
	return map[string]answer{"Numbers": {e, len(l) == 0}, "Rank": {f, s == api.Span{}}}
}

// ofRank asks the functions that are given a rank alone, or how many first ones there are.
func ofRank(c api.Chart, rank int) map[string]answer {
	s, e := charts.Cut(c, rank)
	top, f := charts.Top(c, rank)
	may, g := charts.May(c, rank)
	next, h := charts.Next(c, rank)
	return map[string]answer{"Cut": {e, s == api.Span{}}, "Top": {f, len(top) == 0}, "May": {g, len(may) == 0}, "Next": {h, next == 0}}
}

// ofChart asks the functions that are given the chart alone.
func ofChart(c api.Chart) map[string]answer {
	order, e := charts.Order(c)
	orders, f := charts.Orders(c)
	return map[string]answer{"Order": {e, len(order) == 0}, "Orders": {f, orders == 0}}
}

// checkNone reports an answer that has not the error, or that says something nevertheless.
func checkNone(t *testing.T, i, n int, all map[string]answer, want api.Errno) {
	t.Helper()
	for name, a := range all {
		if a.e != want || !a.zero {
			t.Errorf("%d, %d: %s: %d, zero: %t; not %d", i, n, name, a.e, a.zero, want)
		}
	}
}

// P6.1: which charts are valid.
func TestCheck(t *testing.T) {
	for i, c := range validCharts() {
		if e := charts.Check(c); e != api.OK {
			t.Errorf("valid chart %d: Check = %d", i, e)
		}
	}
	for i, c := range withoutTruth() {
		if e := charts.Check(c); e != api.OK {
			t.Errorf("chart without a truth %d: Check = %d", i, e)
		}
	}
	for i, c := range invalidCharts() {
		if e := charts.Check(c); e != api.ErrChart {
			t.Errorf("invalid chart %d: Check = %d", i, e)
		}
	}
	for c := range drawn(200, full) {
		if e := charts.Check(c); e != api.OK {
			t.Errorf("Check of %v = %d", c, e)
		}
	}
}

// P6.1, R1, R2: an invalid chart comes before an argument that is none, and before ErrNone; nothing else is said of it.
func TestInvalidChartComesFirst(t *testing.T) {
	for i, c := range invalidCharts() {
		checkNone(t, i, 0, ofChart(c), api.ErrChart)
		for _, n := range append(outside(), 0, 1) {
			checkNone(t, i, n, ofTitle(c, n), api.ErrChart)
			checkNone(t, i, n, ofRank(c, n), api.ErrChart)
			needs, e := charts.Needs(c, n, n)
			checkNone(t, i, n, map[string]answer{"Needs": {e, needs == 0}}, api.ErrChart)
		}
	}
}

// P6.2 to P6.5, P6.8, P6.9, R1, R2: the arguments that are none, also if there is no truth, and those that just are.
func TestArguments(t *testing.T) {
	for i, c := range slices.Concat(validCharts(), withoutTruth()) {
		titles := len(c.Meters)
		numbers := append(outside(), count(0, titles+1)...)
		for _, n := range numbers {
			if n < 0 || n >= titles {
				checkNone(t, i, n, ofTitle(c, n), api.ErrArg)
			}
			if n < 1 || n > titles {
				checkNone(t, i, n, ofRank(c, n), api.ErrArg)
			}
			for _, first := range numbers {
				needs, e := charts.Needs(c, n, first)
				if wrong := n < 0 || n >= titles || first < 1 || first > titles; wrong != (e == api.ErrArg) || wrong && needs != 0 {
					t.Errorf("%d: Needs of %d, %d = %d, %d", i, n, first, needs, e)
				}
			}
		}
	}
}

// P6.2 to P6.8: all is said of a valid chart and of what is there; P6.9: Next can be ErrNone.
func TestValidChart(t *testing.T) {
	for i, c := range validCharts() {
		for name, a := range ofChart(c) {
			if a.e != api.OK {
				t.Errorf("%d: %s: %d", i, name, a.e)
			}
		}
		for title := range c.Meters {
			for name, a := range ofTitle(c, title) {
				if a.e != api.OK {
					t.Errorf("%d: %s of %d: %d", i, name, title, a.e)
				}
			}
			for name, a := range ofRank(c, title+1) {
				if a.e != api.OK && (name != "Next" || a.e != api.ErrNone) {
					t.Errorf("%d: %s of %d: %d", i, name, title+1, a.e)
				}
			}
		}
	}
}

// P6.2 to P6.9: ErrNone if some meter has no truth, whichever title is asked for.
func TestNoTruth(t *testing.T) {
	for i, c := range withoutTruth() {
		checkNone(t, i, 0, ofChart(c), api.ErrNone)
		for title := range c.Meters {
			checkNone(t, i, title, ofTitle(c, title), api.ErrNone)
			checkNone(t, i, title+1, ofRank(c, title+1), api.ErrNone)
			for first := 1; first <= len(c.Meters); first++ {
				needs, e := charts.Needs(c, title, first)
				checkNone(t, i, first, map[string]answer{"Needs": {e, needs == 0}}, api.ErrNone)
			}
		}
	}
}
