package charts_test

import (
	"cmp"
	"iter"
	"maps"
	"math/rand/v2"
	"slices"

	"shellac/api"
	"shellac/meters"
)

// This file is a second look at charts, for which all truths are gone through: the tests compare the package with it.

// newMeter returns a meter without readings.
func newMeter(weeks ...api.Span) api.Meter { return api.Meter{Weeks: weeks} }

// read returns a meter with more readings, each an After and a Shown.
func read(m api.Meter, pairs ...int) api.Meter {
	m.Readings = slices.Clone(m.Readings)
	for pair := range slices.Chunk(pairs, 2) {
		m.Readings = append(m.Readings, api.MeterReading{After: pair[0], Shown: pair[1]})
	}
	return m
}

func span(low, high int) api.Span { return api.Span{Low: low, High: high} }

// newChart returns a chart of some meters, without plays elsewhere.
func newChart(from, to int, l ...api.Meter) api.Chart {
	return api.Chart{Meters: l, Extra: make([]int, len(l)), From: from, To: to}
}

// ofWeek returns a chart of one week in which titles were played as often as spans say.
func ofWeek(plays ...api.Span) api.Chart {
	c := newChart(0, 1)
	for _, s := range plays {
		c.Meters, c.Extra = append(c.Meters, newMeter(s)), append(c.Extra, 0)
	}
	return c
}

// chartC is the chart of the chapter's examples, and meterM its first meter.
func chartC() api.Chart {
	return newChart(0, 2, meterM(), newMeter(span(50, 52), span(0, 0)), newMeter(span(100, 100), span(20, 20)))
}

func meterM() api.Meter { return read(newMeter(span(0, 150), span(20, 30)), 0, 95, 1, 10, 2, 35) }

// widest is a chart with all that the limits allow, about which nothing is known.
func widest() api.Chart {
	m := newMeter(slices.Repeat([]api.Span{span(0, api.MaxTurns)}, api.MaxMeterWeeks)...)
	c := newChart(0, api.MaxMeterWeeks, slices.Repeat([]api.Meter{m}, api.MaxChart)...)
	c.Extra = slices.Repeat([]int{api.MaxExtra}, api.MaxChart)
	return c
}

// with returns a chart with something changed.
func with(c api.Chart, change func(c *api.Chart)) api.Chart {
	c = copied(c)
	change(&c)
	return c
}

// copied returns a chart that shares no memory with another one.
func copied(c api.Chart) api.Chart {
	c.Meters, c.Extra = slices.Clone(c.Meters), slices.Clone(c.Extra)
	for i, m := range c.Meters {
		c.Meters[i].Weeks, c.Meters[i].Readings = slices.Clone(m.Weeks), slices.Clone(m.Readings)
	}
	return c
}

// numbersOf returns the numbers of each title, and whether there are some.
func numbersOf(c api.Chart) (all [][]int, ok bool) {
	for title, m := range c.Meters {
		sums, e := meters.Sums(m, c.From, c.To)
		if e != api.OK {
			return nil, false
		}
		for i := range sums {
			sums[i] += c.Extra[title]
		}
		all = append(all, sums)
	}
	return all, true
}

// truths are all truths of titles with such numbers, each a number for each title; they share their memory.
func truths(numbers [][]int) iter.Seq[[]int] {
	return func(yield func([]int) bool) {
		x := make([]int, len(numbers))
		var goOn func(title int) bool
		goOn = func(title int) bool {
			if title == len(x) {
				return yield(x)
			}
			for _, n := range numbers[title] {
				x[title] = n
				if !goOn(title + 1) {
					return false
				}
			}
			return true
		}
		goOn(0)
	}
}

// countTruths returns how many truths there are.
func countTruths(numbers [][]int) int {
	count := 1
	for _, l := range numbers {
		count *= len(l)
	}
	return count
}

// orderBy returns the order in a truth: the greatest number is taken again and again, of equal ones the first.
func orderBy(x []int) []int {
	var order []int
	for range x {
		best := -1
		for title, n := range x {
			if !slices.Contains(order, title) && (best < 0 || n > x[best]) {
				best = title
			}
		}
		order = append(order, best)
	}
	return order
}

// seen is what is seen in all truths of a chart.
type seen struct {
	ranks  []api.Span // of each title
	cuts   []api.Span // of each rank, counted from 0
	orders map[[api.MaxChart]int]bool
}

// look goes through all truths of titles with such numbers.
func look(numbers [][]int) seen {
	s := seen{make([]api.Span, len(numbers)), make([]api.Span, len(numbers)), map[[api.MaxChart]int]bool{}}
	for x := range truths(numbers) {
		order := orderBy(x)
		first := len(s.orders) == 0
		for i, title := range order {
			widen(&s.ranks[title], i+1, first)
			widen(&s.cuts[i], x[title], first)
		}
		var key [api.MaxChart]int
		copy(key[:], order)
		s.orders[key] = true
	}
	return s
}

// widen makes a span so wide that a number is in it.
func widen(s *api.Span, n int, first bool) {
	if first {
		*s = span(n, n)
	}
	*s = span(min(s.Low, n), max(s.High, n))
}

// top and may return the titles that are among so many first ones in each truth, and in some truth.
func (s seen) top(first int) []int { return s.where(func(r api.Span) bool { return r.High <= first }) }
func (s seen) may(first int) []int { return s.where(func(r api.Span) bool { return r.Low <= first }) }

func (s seen) where(isSo func(api.Span) bool) []int {
	var all []int
	for title, r := range s.ranks {
		if isSo(r) {
			all = append(all, title)
		}
	}
	return all
}

// needsBy returns how much more a title needs to be in Top: in each truth one play more is tried after the other.
func needsBy(numbers [][]int, title, first int) int {
	more := 0
	for x := range truths(numbers) {
		for {
			y := slices.Clone(x)
			y[title] += more
			if slices.Index(orderBy(y), title) < first {
				break
			}
			more++
		}
	}
	return more
}

// foundOut looks at a chart for each title and each of its numbers, as if this was its only one.
func foundOut(numbers [][]int) [][]seen {
	all := make([][]seen, len(numbers))
	for title, l := range numbers {
		for _, n := range l {
			known := slices.Clone(numbers)
			known[title] = []int{n}
			all[title] = append(all[title], look(known))
		}
	}
	return all
}

// nextBy returns the title whose number should be found out, -1 if there is none.
func nextBy(found [][]seen, first int) int {
	open := map[int]int{}
	for title, l := range found {
		if len(l) < 2 {
			continue
		}
		for _, s := range l {
			open[title] = max(open[title], len(s.may(first))-len(s.top(first)))
		}
	}
	best := -1
	for _, title := range slices.Sorted(maps.Keys(open)) {
		if best < 0 || open[title] < open[best] {
			best = title
		}
	}
	return best
}

// isOrder returns whether an order is that of a truth: from the last title on, each has the least number that it can have.
func isOrder(numbers [][]int, order []int) bool {
	if !slices.Equal(slices.Sorted(slices.Values(order)), count(0, len(numbers)-1)) {
		return false
	}
	number, behind := -1, -1
	for _, title := range slices.Backward(order) {
		i := slices.IndexFunc(numbers[title], func(n int) bool {
			return n > number || n == number && title < behind
		})
		if i < 0 {
			return false
		}
		number, behind = numbers[title][i], title
	}
	return true
}

// count returns the numbers from low to high.
func count(low, high int) []int {
	var l []int
	for n := low; n <= high; n++ {
		l = append(l, n)
	}
	return l
}

// limits is what drawn charts have at most.
type limits struct{ titles, weeks, turns, width, extra int }

var (
	// few are charts of few titles with many numbers.
	few = limits{titles: 4, weeks: 2, turns: 6, width: 3, extra: 6}
	// near are charts of many titles with few numbers that lie close together.
	near = limits{titles: api.MaxChart, weeks: 1, turns: 4, width: 3, extra: 1}
	// gaps are charts whose meters went round, so that numbers lie far apart.
	gaps = limits{titles: 5, weeks: 1, turns: api.MaxTurns, width: api.MaxTurns, extra: 150}
	// full are charts up to the limits, with too many truths to go through.
	full = limits{titles: api.MaxChart, weeks: api.MaxMeterWeeks, turns: api.MaxTurns, width: api.MaxTurns, extra: api.MaxExtra}
)

// drawn are so many charts, the same ones in each run.
func drawn(count int, l limits) iter.Seq2[api.Chart, *rand.Rand] {
	return func(yield func(api.Chart, *rand.Rand) bool) {
		draw := rand.New(rand.NewPCG(6, uint64(1000*l.titles+l.extra)))
		for range count {
			if !yield(drawChart(draw, l), draw) {
				return
			}
		}
	}
}

// drawChart draws a chart.
func drawChart(draw *rand.Rand, l limits) api.Chart {
	to := draw.IntN(l.weeks + 1)
	if draw.IntN(4) > 0 {
		to = l.weeks
	}
	c := newChart(to-min(to, 1+draw.IntN(l.weeks)), to)
	for range max(draw.IntN(l.titles+1), draw.IntN(l.titles+1)) {
		m := drawMeter(draw, to, to+draw.IntN(l.weeks-to+1), l)
		c.Meters, c.Extra = append(c.Meters, m), append(c.Extra, draw.IntN(l.extra+1))
	}
	return c
}

// drawMeter draws a meter for plays up to a week, with readings most of which are right in one truth.
func drawMeter(draw *rand.Rand, to, weeks int, l limits) api.Meter {
	var m api.Meter
	shown := []int{draw.IntN(100)}
	for week := range weeks {
		low := draw.IntN(l.turns + 1)
		s := span(low, min(l.turns, low+draw.IntN(l.width+1)))
		m.Weeks = append(m.Weeks, s)
		shown = append(shown, (shown[week]+s.Low+draw.IntN(s.High-s.Low+1))%100)
	}
	// wide spans say too little if they are not read; of narrow ones the first reading says nothing
	if draw.IntN(6) > 0 {
		m = read(m, 0, shown[0])
		if l.width > 10 {
			m = read(m, to, shown[to])
		}
	}
	for draw.IntN(3) == 0 && len(m.Readings) < api.MaxReads {
		after := draw.IntN(weeks + 1)
		m = read(m, after, (shown[after]+draw.IntN(2)*draw.IntN(4))%100)
		m.Wrong = min(m.Wrong+draw.IntN(2), 2)
	}
	return m
}

// drawTruth draws a number of each title.
func drawTruth(draw *rand.Rand, numbers [][]int) []int {
	var x []int
	for _, l := range numbers {
		switch draw.IntN(4) {
		case 0:
			x = append(x, slices.Min(l))
		case 1:
			x = append(x, slices.Max(l))
		default:
			x = append(x, l[draw.IntN(len(l))])
		}
	}
	return x
}

// byPlays returns the order of numbers of plays, the greatest first.
func byPlays(plays []int) []int {
	order := count(0, len(plays)-1)
	slices.SortStableFunc(order, func(a, b int) int { return cmp.Compare(plays[b], plays[a]) })
	return order
}
