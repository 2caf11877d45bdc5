package meters_test

import (
	"iter"
	"maps"
	"math/rand/v2"
	"slices"

	"shellac/api"
	"shellac/meters"
)

// This file is a second look at meters, for which all truths are gone through: the tests compare the package with it.

// newMeter returns a meter without readings.
func newMeter(weeks ...api.Span) api.Meter { return api.Meter{Weeks: weeks} }

// read returns a meter with more readings, each an After and a Shown.
func read(m api.Meter, pairs ...int) api.Meter {
	m.Readings = slices.Clone(m.Readings)
	for pair := range slices.Chunk(pairs, 2) {
		m.Readings = append(m.Readings, api.MeterReading{After: pair[0], Shown: pair[1]})
	}
	return m
}

// wrong returns a meter of which so many readings can be wrong.
func wrong(m api.Meter, count int) api.Meter {
	m.Wrong = count
	return m
}

func span(low, high int) api.Span { return api.Span{Low: low, High: high} }

// meterM and meterN are the meters of the chapter's examples.
func meterM() api.Meter { return read(newMeter(span(0, 150), span(20, 30)), 0, 95, 1, 10, 2, 35) }
func meterN() api.Meter { return read(meterM(), 2, 40) }

// widest is a meter with the longest spans, which is not read.
func widest() api.Meter {
	return newMeter(slices.Repeat([]api.Span{span(0, api.MaxTurns)}, api.MaxMeterWeeks)...)
}

// truth is a start and the plays of each week.
type truth struct {
	start int
	plays []int
}

// shows returns what the meter shows when so many weeks are over, counted play by play.
func (x truth) shows(after int) int {
	shown := x.start
	for _, n := range x.plays[:after] {
		for range n {
			shown++
			if shown == 100 {
				shown = 0
			}
		}
	}
	return shown
}

// rounds returns how often the meter goes from 99 to 0.
func (x truth) rounds() int {
	shown, count := x.start, 0
	for _, n := range x.plays {
		for range n {
			shown++
			if shown == 100 {
				shown = 0
				count++
			}
		}
	}
	return count
}

// sum returns the plays of some weeks together.
func (x truth) sum(from, to int) int {
	sum := 0
	for _, n := range x.plays[from:to] {
		sum += n
	}
	return sum
}

// isRight returns whether a reading is right.
func (x truth) isRight(r api.MeterReading) bool { return x.shows(r.After) == r.Shown }

// truths are all truths of a meter if so many readings can be wrong; the plays are those of one list, and to be copied.
func truths(m api.Meter, most int) iter.Seq[truth] {
	return func(yield func(truth) bool) {
		plays := make([]int, len(m.Weeks))
		for start := range 100 {
			if !goOn(m, start, plays, 0, start, most, yield) {
				return
			}
		}
	}
}

// goOn goes through the plays of the weeks from one on, if the meter shows a number before it, and so many readings can still be wrong.
func goOn(m api.Meter, start int, plays []int, week, shown, left int, yield func(truth) bool) bool {
	for _, r := range m.Readings {
		if r.After == week && r.Shown != shown {
			left--
		}
	}
	if left < 0 {
		return true
	}
	if week == len(plays) {
		return yield(truth{start, plays})
	}
	for n := m.Weeks[week].Low; n <= m.Weeks[week].High; n++ {
		plays[week] = n
		if !goOn(m, start, plays, week+1, (shown+n)%100, left, yield) {
			return false
		}
	}
	return true
}

// fewestBy returns the least number of readings that are not right, each number tried.
func fewestBy(m api.Meter) int {
	for count := 0; ; count++ {
		for range truths(m, count) {
			return count
		}
	}
}

type numbers map[int]bool

func (s numbers) list() []int { return slices.Sorted(maps.Keys(s)) }

// seen is what is seen in all truths of a meter.
type seen struct {
	count   int
	sums    map[[2]int]numbers // for each week from which, and up to which
	shows   map[int]numbers    // for each number of weeks that are over
	totals  map[[2]int]numbers // for each number of weeks that are over, and what is shown then: the plays of all weeks
	rounds  numbers
	strange []int
	sure    []int
}

// look goes through all truths of a meter.
func look(m api.Meter) seen {
	s := seen{sums: map[[2]int]numbers{}, shows: map[int]numbers{}, totals: map[[2]int]numbers{}, rounds: numbers{}}
	right := make([]int, len(m.Readings))
	weeks := len(m.Weeks)
	for x := range truths(m, m.Wrong) {
		s.count++
		shown, total, sum := x.start, x.sum(0, weeks), 0
		for after := range weeks + 1 {
			note(s.shows, after, shown)
			note(s.totals, [2]int{after, shown}, total)
			for to := after; to <= weeks; to++ {
				note(s.sums, [2]int{after, to}, x.sum(after, to))
			}
			for i, r := range m.Readings {
				if r.After == after && r.Shown == shown {
					right[i]++
				}
			}
			if after < weeks {
				sum += x.plays[after]
				shown = (x.start + sum) % 100
			}
		}
		s.rounds[(x.start+total)/100] = true
	}
	for i, n := range right {
		if n == 0 {
			s.strange = append(s.strange, i)
		}
		if n == s.count {
			s.sure = append(s.sure, i)
		}
	}
	return s
}

// note adds a number to the numbers of a key.
func note[K comparable](all map[K]numbers, key K, n int) {
	if all[key] == nil {
		all[key] = numbers{}
	}
	all[key][n] = true
}

// ends returns the least and the greatest number.
func (s numbers) ends() api.Span {
	l := s.list()
	return span(l[0], l[len(l)-1])
}

// next returns behind how many weeks the meter should be read.
func (s seen) next(weeks int) int {
	best, least := 0, 0
	for after := range weeks + 1 {
		most := 0
		for key, totals := range s.totals {
			if key[0] == after {
				most = max(most, len(totals))
			}
		}
		if after == 0 || most < least {
			best, least = after, most
		}
	}
	return best
}

// limits is what drawn meters have at most.
type limits struct{ weeks, turns, width, reads int }

var (
	// few are meters with few plays in each week.
	few = limits{weeks: 3, turns: 12, width: 6, reads: 4}
	// many are meters that go round, some of them more than once in a week.
	many = limits{weeks: 5, turns: api.MaxTurns, width: 3, reads: api.MaxReads}
	// wide are meters with few weeks that can have had many plays.
	wide = limits{weeks: 2, turns: api.MaxTurns, width: api.MaxTurns, reads: 5}
	// full are meters up to the limits, with too many truths to go through.
	full = limits{weeks: api.MaxMeterWeeks, turns: api.MaxTurns, width: api.MaxTurns, reads: api.MaxReads}
)

// drawn are so many meters, the same ones in each run.
func drawn(count int, l limits) iter.Seq2[api.Meter, *rand.Rand] {
	return func(yield func(api.Meter, *rand.Rand) bool) {
		draw := rand.New(rand.NewPCG(4, uint64(100*l.weeks+l.width)))
		for range count {
			if !yield(drawMeter(draw, l), draw) {
				return
			}
		}
	}
}

// drawMeter draws a meter, with readings most of which are right in one truth.
func drawMeter(draw *rand.Rand, l limits) api.Meter {
	var m api.Meter
	x := truth{start: draw.IntN(100)}
	for range draw.IntN(l.weeks + 1) {
		low := draw.IntN(l.turns + 1)
		week := span(low, min(l.turns, low+draw.IntN(l.width+1)))
		m.Weeks = append(m.Weeks, week)
		x.plays = append(x.plays, week.Low+draw.IntN(week.High-week.Low+1))
	}
	astray := draw.IntN(3)
	for range draw.IntN(l.reads + 1) {
		r := drawReading(draw, m)
		if draw.IntN(4) >= astray {
			r.Shown = x.shows(r.After)
		}
		m.Readings = append(m.Readings, r)
	}
	m.Wrong = draw.IntN(1 + draw.IntN(1+api.MaxReads))
	return m
}

// drawReading draws a reading that shows anything.
func drawReading(draw *rand.Rand, m api.Meter) api.MeterReading {
	return api.MeterReading{After: draw.IntN(len(m.Weeks) + 1), Shown: draw.IntN(100)}
}

// drawClose draws a reading that shows what the meter can show, or just beside it.
func drawClose(draw *rand.Rand, m api.Meter) api.MeterReading {
	r := drawReading(draw, m)
	if shows, e := meters.Shows(m, r.After); e == api.OK && draw.IntN(4) > 0 {
		r.Shown = (shows[draw.IntN(len(shows))] + 99 + draw.IntN(3)) % 100
	}
	return r
}

// copied returns a meter that shares no memory with another one.
func copied(m api.Meter) api.Meter {
	return api.Meter{Weeks: slices.Clone(m.Weeks), Readings: slices.Clone(m.Readings), Wrong: m.Wrong}
}
