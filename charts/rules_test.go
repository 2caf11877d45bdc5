package charts_test

import (
	"fmt"
	"math"
	"slices"
	"testing"

	"shellac/api"
	"shellac/charts"
)

// answers returns all that the functions say of arguments, as one text.
func answers(c api.Chart, title, rank int) string {
	text := fmt.Sprint(charts.Check(c))
	for _, of := range lists(title, rank) {
		l, e := of(c)
		text += fmt.Sprint(";", l, e)
	}
	s, e := charts.Rank(c, title)
	cut, f := charts.Cut(c, rank)
	text += fmt.Sprint(";", s, e, cut, f)
	for _, of := range []func(api.Chart) (int, api.Errno){
		charts.Orders,
		func(c api.Chart) (int, api.Errno) { return charts.Needs(c, title, rank) },
		func(c api.Chart) (int, api.Errno) { return charts.Next(c, rank) },
	} {
		n, e := of(c)
		text += fmt.Sprint(";", n, e)
	}
	return text
}

// lists are all functions that return a list.
func lists(title, rank int) []func(api.Chart) ([]int, api.Errno) {
	return []func(api.Chart) ([]int, api.Errno){
		charts.Order,
		func(c api.Chart) ([]int, api.Errno) { return charts.Numbers(c, title) },
		func(c api.Chart) ([]int, api.Errno) { return charts.Top(c, rank) },
		func(c api.Chart) ([]int, api.Errno) { return charts.May(c, rank) },
	}
}

// P1: every function returns, whatever it is given.
func TestAnyArguments(t *testing.T) {
	edges := []int{0, 1, -1, 6, 7, math.MaxInt, math.MinInt}
	huge := read(newMeter(span(math.MinInt, math.MaxInt), span(math.MaxInt, math.MinInt)), math.MaxInt, math.MinInt)
	wild := []api.Chart{
		newChart(0, 1, huge, meterM()), newChart(0, math.MaxInt, meterM()), newChart(math.MinInt, math.MinInt, meterM()),
		{Meters: []api.Meter{meterM()}, Extra: []int{math.MaxInt}, To: 2},
		{Meters: []api.Meter{meterM()}, Extra: []int{math.MinInt}, To: 2},
		{Meters: make([]api.Meter, 1000), Extra: slices.Repeat([]int{math.MaxInt}, 1000), From: math.MinInt, To: math.MaxInt},
		{Extra: make([]int, 1000)},
	}
	for _, c := range slices.Concat(validCharts(), invalidCharts(), withoutTruth(), wild) {
		for _, n := range edges {
			for _, m := range []int{n, 1, math.MaxInt} {
				answers(c, n, m)
			}
		}
	}
}

// P1: the greatest charts are done in time, and no number is too great.
func TestGreatestArguments(t *testing.T) {
	c := widest()
	for title := range c.Meters {
		c.Meters[title] = read(c.Meters[title], 0, 3, 1, 50, 2, 7, 3, 98, 4, 1, 5, 77, 5, 78)
		c.Meters[title].Wrong = api.MaxReads
	}
	unread, _ := say(t, widest())
	s, truths := say(t, c)
	if !truths || fmt.Sprint(s) != fmt.Sprint(unread) {
		t.Errorf("if all readings can be wrong: %v; without readings: %v", s, unread)
	}
	if n, e := charts.Next(c, 3); n != 0 || e != api.OK {
		t.Errorf("Next = %d, %d", n, e)
	}
}

// R3: nil and empty lists are the same.
func TestNilAndEmpty(t *testing.T) {
	for _, x := range [][2]api.Chart{
		{{}, {Meters: []api.Meter{}, Extra: []int{}}},
		{{To: 3}, {Meters: []api.Meter{}, Extra: []int{}, To: 3}},
		{{Extra: []int{1}}, {Meters: []api.Meter{}, Extra: []int{1}}},
		{newChart(0, 0, api.Meter{}), newChart(0, 0, api.Meter{Weeks: []api.Span{}, Readings: []api.MeterReading{}})},
		{newChart(0, 0, api.Meter{}, api.Meter{}), newChart(0, 0, api.Meter{Weeks: []api.Span{}}, api.Meter{Readings: []api.MeterReading{}})},
	} {
		for n := range 2 {
			if a, b := answers(x[0], n, n), answers(x[1], n, n); a != b {
				t.Errorf("nil: %s; empty: %s", a, b)
			}
		}
	}
}

// spoil writes over a list, and over the memory behind it.
func spoil(list []int) {
	list = list[:cap(list)]
	for i := range list {
		list[i] = 99
	}
}

// R4: no argument is changed, nor the memory behind it.
func TestArgumentsStay(t *testing.T) {
	for c := range drawn(40, few) {
		extra := append(slices.Clone(c.Extra), 77, 77)
		list := append(slices.Clone(c.Meters), api.Meter{Wrong: 77})
		for i, m := range c.Meters {
			list[i].Weeks = append(slices.Clone(m.Weeks), span(77, 77))[:len(m.Weeks)]
			list[i].Readings = append(slices.Clone(m.Readings), api.MeterReading{After: 77})[:len(m.Readings)]
		}
		text := whole(list, extra)
		c.Meters, c.Extra = list[:len(c.Meters)], extra[:len(c.Extra)]
		for title := range c.Meters {
			answers(c, title, title+1)
			for _, of := range lists(title, title+1) {
				l, _ := of(c)
				spoil(l)
			}
		}
		if after := whole(list, extra); after != text {
			t.Errorf("changed from %s to %s", text, after)
		}
	}
}

// whole is a text of meters and numbers, with the memory behind the weeks and readings.
func whole(l []api.Meter, extra []int) string {
	text := fmt.Sprint(extra)
	for _, m := range l {
		text += fmt.Sprint(m.Weeks[:cap(m.Weeks)], m.Readings[:cap(m.Readings)], m.Wrong)
	}
	return text
}

// R4, and no state is kept: a result is new memory each time, shares none with another one, and what was asked before changes no answer.
func TestResultsAreNew(t *testing.T) {
	a, b := chartC(), ofWeek(span(7, 9), span(5, 7), span(6, 6))
	first, second := answers(a, 1, 2), answers(b, 1, 2)
	if first == second {
		t.Errorf("two charts answer the same: %s", first)
	}
	for _, c := range []api.Chart{a, b} {
		var results [][]int
		for _, of := range lists(1, 2) {
			l, _ := of(c)
			results = append(results, l)
		}
		for i, l := range results {
			before := fmt.Sprint(results[i+1:])
			spoil(l)
			if after := fmt.Sprint(results[i+1:]); after != before {
				t.Errorf("changed with the list %d from %s to %s", i, before, after)
			}
		}
	}
	if again := answers(a, 1, 2); again != first {
		t.Errorf("first %s, then %s", first, again)
	}
	if again := answers(b, 1, 2); again != second {
		t.Errorf("first %s, then %s", second, again)
	}
}
