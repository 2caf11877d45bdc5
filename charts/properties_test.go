package charts_test

import (
	"math/rand/v2"
	"slices"
	"testing"

	"shellac/api"
	"shellac/charts"
	"shellac/meters"
)

// said is all that is said of a chart by promises that compare it with another one; what is asked of ranks begins with the rank 1.
type said struct {
	ranks, cuts []api.Span
	top, may    [][]int
	needs       [][]int // for each title, and how many first ones
	next        []int   // -1: ErrNone
	order       []int
	orders      int
}

// say asks for all of it; it reports whether there is a truth.
func say(t *testing.T, c api.Chart) (s said, truths bool) {
	t.Helper()
	var e api.Errno
	if s.orders, e = charts.Orders(c); e == api.ErrNone {
		return said{}, false
	}
	s.order, truths = mustList(t, c, charts.Order), true
	for title := range c.Meters {
		rank, e := charts.Rank(c, title)
		cut, f := charts.Cut(c, title+1)
		next, g := charts.Next(c, title+1)
		if g == api.ErrNone {
			next, g = -1, api.OK
		}
		if max(e, f, g) != api.OK {
			t.Errorf("Rank, Cut and Next of %v, %d: %d, %d, %d", c, title, e, f, g)
		}
		s.ranks, s.cuts, s.next = append(s.ranks, rank), append(s.cuts, cut), append(s.next, next)
		s.top = append(s.top, mustList(t, c, func(c api.Chart) ([]int, api.Errno) { return charts.Top(c, title+1) }))
		s.may = append(s.may, mustList(t, c, func(c api.Chart) ([]int, api.Errno) { return charts.May(c, title+1) }))
		s.needs = append(s.needs, mustList(t, c, func(c api.Chart) ([]int, api.Errno) { return allNeeds(c, title) }))
	}
	return s, truths
}

// allNeeds returns what a title needs for each number of first ones.
func allNeeds(c api.Chart, title int) ([]int, api.Errno) {
	var l []int
	for first := range c.Meters {
		n, e := charts.Needs(c, title, first+1)
		if e != api.OK {
			return nil, e
		}
		l = append(l, n)
	}
	return l, api.OK
}

func mustList(t *testing.T, c api.Chart, of func(api.Chart) ([]int, api.Errno)) []int {
	t.Helper()
	l, e := of(c)
	if e != api.OK {
		t.Errorf("of %v: %d", c, e)
	}
	return l
}

// eachDrawn does something with drawn charts of all sizes that have a truth, and with what is said of them.
func eachDrawn(t *testing.T, count int, do func(c api.Chart, s said, draw *rand.Rand)) {
	t.Helper()
	for _, l := range []limits{few, near, gaps, full} {
		for c, draw := range drawn(count, l) {
			if s, truths := say(t, c); truths {
				do(c, s, draw)
			}
		}
	}
}

// within returns whether a span is not wider than another one.
func within(a, b api.Span) bool { return a.Low >= b.Low && a.High <= b.High }

// isPart returns whether all numbers of a list are in another one.
func isPart(a, b []int) bool {
	return !slices.ContainsFunc(a, func(n int) bool { return !slices.Contains(b, n) })
}

// P6.10 (each truth): ranks and numbers are within Rank and Cut; titles of Top are among the first ones, and these are in May.
func TestEachTruth(t *testing.T) {
	eachDrawn(t, 30, func(c api.Chart, s said, draw *rand.Rand) {
		numbers, _ := numbersOf(c)
		for range 40 {
			x := drawTruth(draw, numbers)
			order := orderBy(x)
			for i, title := range order {
				if !within(span(i+1, i+1), s.ranks[title]) || !within(span(x[title], x[title]), s.cuts[i]) {
					t.Errorf("%v is a truth of %v, but Rank of %d is %v, Cut of %d is %v", x, c, title, s.ranks[title], i+1, s.cuts[i])
				}
				if first := order[:i+1]; !isPart(s.top[i], first) || !isPart(first, s.may[i]) {
					t.Errorf("%v is a truth of %v, but Top of %d is %v, May %v", x, c, i+1, s.top[i], s.may[i])
				}
			}
		}
		if !isOrder(numbers, s.order) {
			t.Errorf("Order of %v = %v", c, s.order)
		}
	})
}

// P6.11 (one more reading): no Rank and no Cut is wider, nothing leaves Top or comes to May, and there are not more Orders.
func TestOneMoreReading(t *testing.T) {
	told := 0
	eachDrawn(t, 25, func(c api.Chart, s said, draw *rand.Rand) {
		for range min(2, len(c.Meters)) {
			title := draw.IntN(len(c.Meters))
			m := c.Meters[title]
			if len(m.Readings) == api.MaxReads {
				continue
			}
			more := copied(c)
			more.Meters[title] = oneMore(draw, m, c.To)
			after, truths := say(t, more)
			if !truths {
				continue
			}
			if after.orders < s.orders || !slices.Equal(after.cuts, s.cuts) {
				told++
			}
			checkTold(t, more, s, after)
		}
	})
	if told < 30 {
		t.Errorf("only %d readings told something", told)
	}
}

// oneMore returns a meter that has a truth with one more reading, most often behind a week, which shows what it can show, or just beside it.
func oneMore(draw *rand.Rand, m api.Meter, week int) api.Meter {
	after := draw.IntN(len(m.Weeks) + 1)
	if draw.IntN(3) > 0 {
		after = week
	}
	shows, _ := meters.Shows(m, after)
	return read(m, after, (shows[draw.IntN(len(shows))]+draw.IntN(5)/4)%100)
}

// checkTold reports a chart of which less is said with one more reading than before.
func checkTold(t *testing.T, c api.Chart, before, after said) {
	t.Helper()
	if after.orders > before.orders {
		t.Errorf("Orders of %v = %d, before %d", c, after.orders, before.orders)
	}
	for i := range c.Meters {
		if !within(after.ranks[i], before.ranks[i]) || !within(after.cuts[i], before.cuts[i]) {
			t.Errorf("of %v, %d: Rank %v, before %v; Cut %v, before %v", c, i, after.ranks[i], before.ranks[i], after.cuts[i], before.cuts[i])
		}
		if !isPart(before.top[i], after.top[i]) || !isPart(after.may[i], before.may[i]) {
			t.Errorf("of %v, %d: Top %v, before %v; May %v, before %v", c, i+1, after.top[i], before.top[i], after.may[i], before.may[i])
		}
	}
}

// P6.12 (how many): Top has at most as many titles as there are first ones, May at least; both grow with these, and are told by Rank.
func TestHowMany(t *testing.T) {
	eachDrawn(t, 40, func(c api.Chart, s said, draw *rand.Rand) {
		for i := range c.Meters {
			top, may := s.top[i], s.may[i]
			if len(top) > i+1 || len(may) < i+1 || !slices.IsSorted(top) || !slices.IsSorted(may) {
				t.Errorf("of %v, %d: Top = %v, May = %v", c, i+1, top, may)
			}
			if i > 0 && (!isPart(s.top[i-1], top) || !isPart(s.may[i-1], may)) {
				t.Errorf("of %v, %d: Top = %v, May = %v; of one fewer: %v, %v", c, i+1, top, may, s.top[i-1], s.may[i-1])
			}
			for title, rank := range s.ranks {
				if slices.Contains(top, title) != (rank.High <= i+1) || slices.Contains(may, title) != (rank.Low <= i+1) {
					t.Errorf("of %v, %d: Top = %v, May = %v, but Rank of %d = %v", c, i+1, top, may, title, rank)
				}
			}
		}
	})
}

// P6.13 (more plays): with a greater Extra Rank is not greater; with Needs more, and not with one less, the title is in Top.
func TestMorePlays(t *testing.T) {
	needed := 0
	eachDrawn(t, 30, func(c api.Chart, s said, draw *rand.Rand) {
		for title, needs := range s.needs {
			more := with(c, func(c *api.Chart) { c.Extra[title] += draw.IntN(api.MaxExtra + 1 - c.Extra[title]) })
			rank, e := charts.Rank(more, title)
			if before := s.ranks[title]; rank.Low > before.Low || rank.High > before.High || e != api.OK {
				t.Errorf("Rank of %v, %d = %v, %d, of %v: %v", more, title, rank, e, c, before)
			}
			for i, n := range needs {
				if c.Extra[title]+n > api.MaxExtra {
					continue
				}
				if !isInTop(t, with(c, func(c *api.Chart) { c.Extra[title] += n }), title, i+1) {
					t.Errorf("Needs of %v, %d, %d = %d, but it is not in Top then", c, title, i+1, n)
				}
				if n == 0 {
					continue
				}
				needed++
				if isInTop(t, with(c, func(c *api.Chart) { c.Extra[title] += n - 1 }), title, i+1) {
					t.Errorf("Needs of %v, %d, %d = %d, but it is in Top with one less", c, title, i+1, n)
				}
			}
		}
	})
	if needed < 300 {
		t.Errorf("only %d titles need more", needed)
	}
}

func isInTop(t *testing.T, c api.Chart, title, first int) bool {
	t.Helper()
	return slices.Contains(mustList(t, c, func(c api.Chart) ([]int, api.Errno) { return charts.Top(c, first) }), title)
}

// P6.14 (more for all): if each Extra is greater by the same number, Cut is, too, and all else but Numbers is the same.
func TestMoreForAll(t *testing.T) {
	eachDrawn(t, 30, func(c api.Chart, s said, draw *rand.Rand) {
		if len(c.Meters) == 0 {
			return
		}
		by := draw.IntN(api.MaxExtra + 1 - slices.Max(c.Extra))
		more := copied(c)
		for title := range more.Extra {
			more.Extra[title] += by
		}
		after, truths := say(t, more)
		for i := range s.cuts {
			s.cuts[i] = span(s.cuts[i].Low+by, s.cuts[i].High+by)
		}
		same := truths && slices.Equal(s.ranks, after.ranks) && slices.Equal(s.cuts, after.cuts) &&
			slices.EqualFunc(s.top, after.top, slices.Equal) && slices.EqualFunc(s.may, after.may, slices.Equal) &&
			slices.EqualFunc(s.needs, after.needs, slices.Equal) && slices.Equal(s.next, after.next) && s.orders == after.orders
		if numbers, _ := numbersOf(more); !same || !isOrder(numbers, s.order) {
			t.Errorf("with %d more for all of %v: %v, not %v", by, c, after, s)
		}
	})
}

// P6.15 (one order): there is one order just if each Rank is one number; Order is then this one.
func TestOneOrder(t *testing.T) {
	one := 0
	eachDrawn(t, 40, func(c api.Chart, s said, draw *rand.Rand) {
		wide := slices.ContainsFunc(s.ranks, func(r api.Span) bool { return r.Low != r.High })
		if wide == (s.orders == 1) || s.orders < 1 {
			t.Errorf("Orders of %v = %d, but the Ranks are %v", c, s.orders, s.ranks)
		}
		if wide {
			return
		}
		one++
		for title, r := range s.ranks {
			if slices.Index(s.order, title) != r.Low-1 {
				t.Errorf("Order of %v = %v, but Rank of %d is %v", c, s.order, title, r)
			}
		}
	})
	if one < 50 {
		t.Errorf("only %d charts have one order", one)
	}
}
