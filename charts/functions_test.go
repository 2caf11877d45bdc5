package charts_test

import (
	"slices"
	"testing"

	"shellac/api"
	"shellac/charts"
)

// P6.2: the chapter's examples, plays elsewhere, parts of the weeks, and all numbers that there can be.
func TestNumbers(t *testing.T) {
	elsewhere := with(chartC(), func(c *api.Chart) { c.Extra = []int{7, 0, api.MaxExtra} })
	loose := with(chartC(), func(c *api.Chart) { c.Meters[0] = read(c.Meters[0], 2, 40); c.Meters[0].Wrong = 1 })
	for i, x := range []struct {
		c     api.Chart
		title int
		want  []int
	}{
		{chartC(), 0, []int{40, 140}},
		{chartC(), 1, []int{50, 51, 52}},
		{chartC(), 2, []int{120}},
		{elsewhere, 0, []int{47, 147}},
		{elsewhere, 1, []int{50, 51, 52}},
		{elsewhere, 2, []int{1119}},
		{with(elsewhere, func(c *api.Chart) { c.From = 1 }), 0, []int{32}},
		{with(elsewhere, func(c *api.Chart) { c.To = 1 }), 0, []int{22, 122}},
		{with(elsewhere, func(c *api.Chart) { c.From, c.To = 1, 1 }), 0, []int{7}},
		{with(elsewhere, func(c *api.Chart) { c.To = 0 }), 2, []int{999}},
		{loose, 0, []int{40, 45, 140, 145}},
		{widest(), 5, count(999, 2499)},
		{newChart(0, 0, api.Meter{}), 0, []int{0}},
	} {
		if l, e := charts.Numbers(x.c, x.title); !slices.Equal(l, x.want) || e != api.OK {
			t.Errorf("%d: Numbers = %v, %d", i, l, e)
		}
	}
}

// P6.3: the chapter's example, one title, equal numbers, and spans that just touch.
func TestRank(t *testing.T) {
	for i, x := range []struct {
		c    api.Chart
		want []api.Span
	}{
		{chartC(), []api.Span{span(1, 3), span(2, 3), span(1, 2)}},
		{with(chartC(), func(c *api.Chart) { c.Extra[1] = 90 }), []api.Span{span(1, 3), span(1, 2), span(2, 3)}},
		{ofWeek(span(0, 300)), []api.Span{span(1, 1)}},
		{ofWeek(span(7, 7), span(7, 7), span(7, 7)), []api.Span{span(1, 1), span(2, 2), span(3, 3)}},
		{ofWeek(span(7, 7), span(8, 8), span(7, 7)), []api.Span{span(2, 2), span(1, 1), span(3, 3)}},
		// of equal ones the title with the lesser number is first
		{ofWeek(span(5, 9), span(0, 5)), []api.Span{span(1, 1), span(2, 2)}},
		{ofWeek(span(5, 9), span(0, 6)), []api.Span{span(1, 2), span(1, 2)}},
		{ofWeek(span(0, 5), span(5, 9)), []api.Span{span(1, 2), span(1, 2)}},
		{ofWeek(span(0, 5), span(6, 9)), []api.Span{span(2, 2), span(1, 1)}},
		{ofWeek(span(3, 3), span(0, 9), span(3, 3), span(4, 4)), []api.Span{span(2, 3), span(1, 4), span(3, 4), span(1, 2)}},
		{widest(), slices.Repeat([]api.Span{span(1, 6)}, 6)},
	} {
		for title, want := range x.want {
			if s, e := charts.Rank(x.c, title); s != want || e != api.OK {
				t.Errorf("%d: Rank of %d = %v, %d", i, title, s, e)
			}
		}
	}
}

// P6.4: the chapter's example, one title, equal numbers, and the numbers of different titles at both ends.
func TestCut(t *testing.T) {
	for i, x := range []struct {
		c    api.Chart
		want []api.Span
	}{
		{chartC(), []api.Span{span(120, 140), span(50, 120), span(40, 52)}},
		{with(chartC(), func(c *api.Chart) { c.Extra[1] = 90 }), []api.Span{span(140, 142), span(120, 140), span(40, 120)}},
		{ofWeek(span(0, 300)), []api.Span{span(0, 300)}},
		{ofWeek(span(7, 7), span(7, 7), span(8, 8)), []api.Span{span(8, 8), span(7, 7), span(7, 7)}},
		{ofWeek(span(0, 9), span(4, 5)), []api.Span{span(4, 9), span(0, 5)}},
		{ofWeek(span(3, 3), span(0, 9), span(3, 3), span(4, 4)), []api.Span{span(4, 9), span(3, 4), span(3, 3), span(0, 3)}},
		{widest(), slices.Repeat([]api.Span{span(999, 2499)}, 6)},
	} {
		for before, want := range x.want {
			if s, e := charts.Cut(x.c, before+1); s != want || e != api.OK {
				t.Errorf("%d: Cut of %d = %v, %d", i, before+1, s, e)
			}
		}
	}
}

// P6.5: the chapter's examples, and equal titles.
func TestTopAndMay(t *testing.T) {
	for i, x := range []struct {
		c        api.Chart
		first    int
		top, may []int
	}{
		{chartC(), 1, nil, []int{0, 2}},
		{chartC(), 2, []int{2}, []int{0, 1, 2}},
		{chartC(), 3, []int{0, 1, 2}, []int{0, 1, 2}},
		{ofWeek(span(0, 300)), 1, []int{0}, []int{0}},
		{ofWeek(span(7, 7), span(7, 7), span(7, 7)), 1, []int{0}, []int{0}},
		{ofWeek(span(7, 7), span(7, 7), span(7, 7)), 2, []int{0, 1}, []int{0, 1}},
		{ofWeek(span(0, 5), span(5, 9)), 1, nil, []int{0, 1}},
		{ofWeek(span(5, 9), span(0, 5)), 1, []int{0}, []int{0}},
		{ofWeek(span(3, 3), span(0, 9), span(3, 3), span(4, 4)), 2, []int{3}, []int{0, 1, 3}},
		{ofWeek(span(3, 3), span(0, 9), span(3, 3), span(4, 4)), 3, []int{0, 3}, []int{0, 1, 2, 3}},
		{widest(), 1, nil, []int{0, 1, 2, 3, 4, 5}},
		{widest(), 5, nil, []int{0, 1, 2, 3, 4, 5}},
		{widest(), 6, []int{0, 1, 2, 3, 4, 5}, []int{0, 1, 2, 3, 4, 5}},
	} {
		top, e := charts.Top(x.c, x.first)
		may, f := charts.May(x.c, x.first)
		if !slices.Equal(top, x.top) || e != api.OK || !slices.Equal(may, x.may) || f != api.OK {
			t.Errorf("%d: Top = %v, %d; May = %v, %d", i, top, e, may, f)
		}
	}
}

// P6.6, P6.7: the chapter's example, no titles, equal titles, spans that just touch, and numbers with others between them.
func TestOrderAndOrders(t *testing.T) {
	// 0 or 100 plays
	far := read(newMeter(span(0, 199)), 0, 5, 1, 5)
	for i, x := range []struct {
		c      api.Chart
		orders int
	}{
		{chartC(), 2},
		{newChart(0, 0), 1},
		{newChart(2, 5), 1},
		{ofWeek(span(0, 300)), 1},
		{ofWeek(span(7, 7), span(8, 8), span(7, 7)), 1},
		{ofWeek(span(0, 5), span(5, 9)), 2},
		{ofWeek(span(5, 9), span(0, 5)), 1},
		{ofWeek(span(0, 5), span(6, 9)), 1},
		{ofWeek(span(0, 1), span(0, 1), span(0, 1)), 5},
		{ofWeek(span(0, 2), span(0, 2), span(0, 2)), 6},
		{newChart(0, 1, far, newMeter(span(1, 99)), newMeter(span(1, 1))), 2},
		{newChart(0, 1, far, newMeter(span(1, 99)), newMeter(span(0, 0))), 2},
		{newChart(0, 1, far, far, far), 5},
		{newChart(0, 1, far, far, newMeter(span(50, 50))), 4},
		{newChart(0, 1, newMeter(span(50, 50)), far, far), 4},
		{widest(), 720},
	} {
		numbers, _ := numbersOf(x.c)
		order, e := charts.Order(x.c)
		if e != api.OK || !isOrder(numbers, order) {
			t.Errorf("%d: Order = %v, %d", i, order, e)
		}
		if n, e := charts.Orders(x.c); n != x.orders || e != api.OK {
			t.Errorf("%d: Orders = %d, %d", i, n, e)
		}
	}
}

// P6.8: the chapter's examples, titles that need nothing, and more than an Extra can be.
func TestNeeds(t *testing.T) {
	for i, x := range []struct {
		c                  api.Chart
		title, first, want int
	}{
		{chartC(), 1, 1, 91},
		{chartC(), 1, 2, 70},
		{chartC(), 1, 3, 0},
		{chartC(), 2, 1, 21},
		{chartC(), 2, 2, 0},
		{chartC(), 0, 1, 80},
		{chartC(), 0, 2, 12},
		{ofWeek(span(0, 300)), 0, 1, 0},
		{ofWeek(span(7, 7), span(7, 7)), 0, 1, 0},
		{ofWeek(span(7, 7), span(7, 7)), 1, 1, 1},
		{ofWeek(span(7, 7), span(6, 6)), 1, 1, 2},
		{ofWeek(span(6, 6), span(7, 7)), 0, 1, 1},
		{ofWeek(span(0, 9), span(0, 9)), 0, 1, 9},
		{ofWeek(span(0, 9), span(0, 9)), 1, 1, 10},
		{widest(), 0, 1, 1500},
		{widest(), 5, 1, 1501},
		{widest(), 5, 5, 1501},
		{widest(), 5, 6, 0},
		{with(widest(), func(c *api.Chart) { c.Extra[3] = 0 }), 3, 2, 2500},
		{with(widest(), func(c *api.Chart) { c.Extra[0] = 0 }), 0, 5, 2499},
	} {
		if n, e := charts.Needs(x.c, x.title, x.first); n != x.want || e != api.OK {
			t.Errorf("%d: Needs = %d, %d", i, n, e)
		}
	}
}

// P6.9: the chapter's example, titles with one number, equal ones, and a title that tells more than the ones before it.
func TestNext(t *testing.T) {
	for i, x := range []struct {
		c           api.Chart
		first, want int // -1: ErrNone
	}{
		{chartC(), 1, 0},
		{chartC(), 2, 0},
		{chartC(), 3, 0},
		{ofWeek(span(0, 300)), 1, 0},
		{ofWeek(span(300, 300)), 1, -1},
		{ofWeek(span(7, 7), span(8, 8), span(7, 7)), 2, -1},
		{ofWeek(span(7, 7), span(8, 9), span(7, 7)), 2, 1},
		{ofWeek(span(4, 4), span(0, 9)), 1, 1},
		{ofWeek(span(0, 9), span(0, 9)), 1, 0},
		// the last one can be before both others, or behind both
		{ofWeek(span(2, 3), span(6, 6), span(0, 9)), 1, 2},
		{ofWeek(span(3, 3), span(6, 7), span(0, 9)), 2, 2},
		// nothing is open of the first one
		{ofWeek(span(20, 25), span(2, 4), span(3, 3)), 2, 1},
		{ofWeek(span(20, 25), span(2, 4), span(3, 3)), 1, 0},
		// with most numbers of the first one fewer titles are open than with those of the second one, but with its least one there are more
		{ofWeek(span(3, 7), span(2, 6), span(0, 4), span(9, 13)), 2, 1},
		{widest(), 1, 0},
	} {
		n, e := charts.Next(x.c, x.first)
		if x.want < 0 && (n != 0 || e != api.ErrNone) || x.want >= 0 && (n != x.want || e != api.OK) {
			t.Errorf("%d: Next = %d, %d", i, n, e)
		}
	}
}

// checkTruths compares all that is said of a chart with what is seen in its truths.
func checkTruths(t *testing.T, c api.Chart, numbers [][]int) {
	t.Helper()
	s, titles := look(numbers), len(numbers)
	same := func(name string, n int, l []int, e api.Errno, want []int) {
		if !slices.Equal(l, want) || e != api.OK {
			t.Errorf("%s of %v, %d = %v, %d, not %v", name, c, n, l, e, want)
		}
	}
	for title := range titles {
		l, e := charts.Numbers(c, title)
		same("Numbers", title, l, e, numbers[title])
		if got, e := charts.Rank(c, title); got != s.ranks[title] || e != api.OK {
			t.Errorf("Rank of %v, %d = %v, %d, not %v", c, title, got, e, s.ranks[title])
		}
	}
	for first := 1; first <= titles; first++ {
		if got, e := charts.Cut(c, first); got != s.cuts[first-1] || e != api.OK {
			t.Errorf("Cut of %v, %d = %v, %d, not %v", c, first, got, e, s.cuts[first-1])
		}
		l, e := charts.Top(c, first)
		same("Top", first, l, e, s.top(first))
		l, e = charts.May(c, first)
		same("May", first, l, e, s.may(first))
	}
	order, e := charts.Order(c)
	if !isOrder(numbers, order) || e != api.OK {
		t.Errorf("Order of %v = %v, %d", c, order, e)
	}
	if n, e := charts.Orders(c); n != len(s.orders) || e != api.OK {
		t.Errorf("Orders of %v = %d, %d, not %d", c, n, e, len(s.orders))
	}
}

// checkWishes compares Needs and Next with what is seen in truths of other charts.
func checkWishes(t *testing.T, c api.Chart, numbers [][]int) {
	t.Helper()
	found := foundOut(numbers)
	for first := 1; first <= len(numbers); first++ {
		for title := range numbers {
			want := needsBy(numbers, title, first)
			if n, e := charts.Needs(c, title, first); n != want || e != api.OK {
				t.Errorf("Needs of %v, %d, %d = %d, %d, not %d", c, title, first, n, e, want)
			}
		}
		n, e := charts.Next(c, first)
		want := nextBy(found, first)
		if want < 0 && (n != 0 || e != api.ErrNone) || want >= 0 && (n != want || e != api.OK) {
			t.Errorf("Next of %v, %d = %d, %d, not %d", c, first, n, e, want)
		}
	}
}

// P6.2 to P6.9: all functions say what is seen in all truths, each of them gone through.
func TestAllTruths(t *testing.T) {
	checked, many, wishes := 0, 0, 0
	for _, l := range []limits{few, near, gaps, full} {
		for c := range drawn(200, l) {
			numbers, ok := numbersOf(c)
			if !ok || countTruths(numbers) > 3000 {
				continue
			}
			checked++
			checkTruths(t, c, numbers)
			if orders, _ := charts.Orders(c); orders > 3 {
				many++
			}
			if countTruths(numbers) <= 300 {
				wishes++
				checkWishes(t, c, numbers)
			}
		}
	}
	if checked < 450 || many < 100 || wishes < 400 {
		t.Errorf("only %d charts, %d with many orders, %d with wishes", checked, many, wishes)
	}
}
