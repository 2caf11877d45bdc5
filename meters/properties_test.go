package meters_test

import (
	"math/rand/v2"
	"slices"
	"testing"

	"shellac/api"
	"shellac/meters"
)

// said is all that is said of a meter by promises that compare it with another one.
type said struct {
	fewest int
	truths bool
	weeks  []api.Span
	sums   map[[2]int][]int
	shows  [][]int
	rounds api.Span
}

// say asks for all of it; without a truth there is only Fewest.
func say(t *testing.T, m api.Meter) said {
	t.Helper()
	n, e := meters.Fewest(m)
	s := said{fewest: n, sums: map[[2]int][]int{}}
	if e != api.OK {
		t.Errorf("Fewest of %v: %d", m, e)
	}
	if s.rounds, e = meters.Rounds(m); e == api.ErrNone {
		return s
	}
	s.truths = true
	errors := []api.Errno{e}
	for week := range m.Weeks {
		plays, e := meters.Week(m, week)
		s.weeks, errors = append(s.weeks, plays), append(errors, e)
	}
	for from := range len(m.Weeks) + 1 {
		l, e := meters.Shows(m, from)
		s.shows, errors = append(s.shows, l), append(errors, e)
		for to := from; to <= len(m.Weeks); to++ {
			l, e = meters.Sums(m, from, to)
			s.sums[[2]int{from, to}], errors = l, append(errors, e)
		}
	}
	if slices.Max(errors) != api.OK {
		t.Errorf("%v has a truth, but errors: %v", m, errors)
	}
	return s
}

// eachDrawn does something with drawn meters of all sizes.
func eachDrawn(count int, do func(m api.Meter, draw *rand.Rand)) {
	for _, l := range []limits{few, many, wide, full} {
		for m, draw := range drawn(count, l) {
			do(m, draw)
		}
	}
}

// sameSums returns whether all Sums are the same.
func sameSums(a, b said) bool {
	for key, l := range a.sums {
		if !slices.Equal(l, b.sums[key]) {
			return false
		}
	}
	return len(a.sums) == len(b.sums)
}

// within returns whether a span is not wider than another one.
func within(a, b api.Span) bool { return a.Low >= b.Low && a.High <= b.High }

// isPart returns whether all numbers of a list are in another one.
func isPart(a, b []int) bool {
	return !slices.ContainsFunc(a, func(n int) bool { return !slices.Contains(b, n) })
}

// P4.9 (each truth): plays, sums and what is shown are those that are said; readings of Strange are not right, those of Sure are.
func TestEachTruth(t *testing.T) {
	checked := 0
	eachDrawn(60, func(m api.Meter, draw *rand.Rand) {
		s := say(t, m)
		strange, _ := meters.Strange(m)
		sure, _ := meters.Sure(m)
		if !s.truths {
			return
		}
		left := 150
		for x := range truths(m, m.Wrong) {
			if left--; left < 0 {
				break
			}
			checked++
			notRight := 0
			for week, n := range x.plays {
				if !within(span(n, n), s.weeks[week]) {
					t.Errorf("%v is a truth of %v, but Week of %d is %v", x, m, week, s.weeks[week])
				}
			}
			for key, l := range s.sums {
				if _, found := slices.BinarySearch(l, x.sum(key[0], key[1])); !found {
					t.Errorf("%v is a truth of %v, but Sums of %v are %v", x, m, key, l)
				}
			}
			for after, l := range s.shows {
				if !slices.Contains(l, x.shows(after)) {
					t.Errorf("%v is a truth of %v, but Shows of %d are %v", x, m, after, l)
				}
			}
			for i, r := range m.Readings {
				right := x.isRight(r)
				if !right {
					notRight++
				}
				if right && slices.Contains(strange, i) || !right && slices.Contains(sure, i) {
					t.Errorf("%v is a truth of %v, but Strange are %v, Sure %v", x, m, strange, sure)
				}
			}
			if notRight < s.fewest {
				t.Errorf("in %v, a truth of %v, %d are not right", x, m, notRight)
			}
			if rounds := x.rounds(); !within(span(rounds, rounds), s.rounds) {
				t.Errorf("%v is a truth of %v, but Rounds are %v", x, m, s.rounds)
			}
		}
	})
	if checked < 10000 {
		t.Errorf("only %d truths", checked)
	}
}

// P4.10 (one more reading): nothing comes to Sums and Shows, no span is wider; Fewest is greater by 1 at most. There is a truth just if Fewest is at most Wrong.
func TestOneMoreReading(t *testing.T) {
	less := 0
	eachDrawn(100, func(m api.Meter, draw *rand.Rand) {
		a := say(t, m)
		if a.truths != (a.fewest <= m.Wrong) {
			t.Errorf("Fewest of %v = %d, but there is a truth: %t", m, a.fewest, a.truths)
		}
		if len(m.Readings) == api.MaxReads {
			return
		}
		r := drawClose(draw, m)
		more := copied(m)
		more.Readings = slices.Insert(more.Readings, draw.IntN(len(m.Readings)+1), r)
		b := say(t, more)
		if b.fewest < a.fewest || b.fewest > a.fewest+1 || b.truths && !a.truths {
			t.Errorf("Fewest of %v is %d, of %v %d", m, a.fewest, more, b.fewest)
		}
		if !b.truths {
			return
		}
		for week, s := range b.weeks {
			if !within(s, a.weeks[week]) {
				t.Errorf("Week of %v, %d: %v, of %v: %v", m, week, a.weeks[week], more, s)
			}
		}
		for after, l := range b.shows {
			if !isPart(l, a.shows[after]) {
				t.Errorf("Shows of %v, %d: %v, of %v: %v", m, after, a.shows[after], more, l)
			}
		}
		for key, l := range b.sums {
			if !isPart(l, a.sums[key]) {
				t.Errorf("Sums of %v, %v: %v, of %v: %v", m, key, a.sums[key], more, l)
			}
		}
		if !within(b.rounds, a.rounds) {
			t.Errorf("Rounds of %v: %v, of %v: %v", m, a.rounds, more, b.rounds)
		}
		if !sameSums(a, b) {
			less++
		}
	})
	if less < 30 {
		t.Errorf("only %d readings told something", less)
	}
}

// P4.11 (a hundred more): the Week of a week with 100 plays more is 100 more, Rounds 1 more, and all else is the same.
func TestHundredMore(t *testing.T) {
	moved := 0
	eachDrawn(80, func(m api.Meter, draw *rand.Rand) {
		for week, plays := range m.Weeks {
			if plays.High+100 > api.MaxTurns {
				continue
			}
			more := copied(m)
			more.Weeks[week] = span(plays.Low+100, plays.High+100)
			a, b := say(t, m), say(t, more)
			same := a.fewest == b.fewest && a.truths == b.truths && slices.EqualFunc(a.shows, b.shows, slices.Equal)
			if a.truths {
				moved++
				a.weeks[week] = span(a.weeks[week].Low+100, a.weeks[week].High+100)
				same = same && slices.Equal(a.weeks, b.weeks) && b.rounds == span(a.rounds.Low+1, a.rounds.High+1)
			}
			if !same {
				t.Errorf("of %v: %v; of %v: %v", m, a, more, b)
			}
		}
	})
	if moved < 100 {
		t.Errorf("only %d weeks had 100 plays more", moved)
	}
}

// P4.12 (another start): if all readings are greater by a number, Shows is, too, and Week, Sums and Fewest are the same.
func TestAnotherStart(t *testing.T) {
	eachDrawn(100, func(m api.Meter, draw *rand.Rand) {
		by := draw.IntN(100)
		other := copied(m)
		for i := range other.Readings {
			other.Readings[i].Shown = (other.Readings[i].Shown + by) % 100
		}
		a, b := say(t, m), say(t, other)
		for _, l := range a.shows {
			for i := range l {
				l[i] = (l[i] + by) % 100
			}
			slices.Sort(l)
		}
		if a.fewest != b.fewest || a.truths != b.truths || !slices.Equal(a.weeks, b.weeks) || !sameSums(a, b) || !slices.EqualFunc(a.shows, b.shows, slices.Equal) {
			t.Errorf("of %v: %v; of %v: %v", m, a, other, b)
		}
	})
}

// P4.13 (backwards): Week is that of the other week, and Sums and Fewest are the same.
func TestBackwards(t *testing.T) {
	eachDrawn(100, func(m api.Meter, draw *rand.Rand) {
		weeks := len(m.Weeks)
		back := copied(m)
		slices.Reverse(back.Weeks)
		for i, r := range back.Readings {
			back.Readings[i] = api.MeterReading{After: weeks - r.After, Shown: (100 - r.Shown) % 100}
		}
		a, b := say(t, m), say(t, back)
		slices.Reverse(b.weeks)
		sums := map[[2]int][]int{}
		for key, l := range b.sums {
			sums[[2]int{weeks - key[1], weeks - key[0]}] = l
		}
		b.sums = sums
		if a.fewest != b.fewest || a.truths != b.truths || !slices.Equal(a.weeks, b.weeks) || !sameSums(a, b) {
			t.Errorf("of %v: %v; of %v: %v", m, a, back, b)
		}
	})
}

// P4.14 (parts): Sums of no weeks is 0; each number of Sums is one of an earlier part and one of a later part together.
func TestParts(t *testing.T) {
	eachDrawn(40, func(m api.Meter, draw *rand.Rand) {
		s := say(t, m)
		for key, l := range s.sums {
			from, to := key[0], key[1]
			if from == to && !slices.Equal(l, []int{0}) {
				t.Errorf("Sums of %v, %v = %v", m, key, l)
			}
			for part := from; part <= to; part++ {
				both := numbers{}
				for _, a := range s.sums[[2]int{from, part}] {
					for _, b := range s.sums[[2]int{part, to}] {
						both[a+b] = true
					}
				}
				if slices.ContainsFunc(l, func(n int) bool { return !both[n] }) {
					t.Errorf("Sums of %v, %v = %v, in parts up to %d: %v", m, key, l, part, both.list())
				}
			}
		}
	})
}

// P4.14 (parts): the order of readings changes nothing but their numbers.
func TestOrderOfReadings(t *testing.T) {
	eachDrawn(50, func(m api.Meter, draw *rand.Rand) {
		places := draw.Perm(len(m.Readings))
		other := copied(m)
		for i, place := range places {
			other.Readings[place] = m.Readings[i]
		}
		a, b := say(t, m), say(t, other)
		if a.fewest != b.fewest || a.truths != b.truths || a.rounds != b.rounds || !slices.Equal(a.weeks, b.weeks) || !sameSums(a, b) || !slices.EqualFunc(a.shows, b.shows, slices.Equal) {
			t.Errorf("of %v: %v; of %v: %v", m, a, other, b)
		}
		for name, of := range map[string]func(api.Meter) ([]int, api.Errno){"Strange": meters.Strange, "Sure": meters.Sure} {
			x, e := of(m)
			y, f := of(other)
			for i := range x {
				x[i] = places[x[i]]
			}
			slices.Sort(x)
			if !slices.Equal(x, y) || e != f {
				t.Errorf("%s of %v: %v, %d; of %v: %v, %d", name, m, x, e, other, y, f)
			}
		}
		x, e := meters.Next(m)
		y, f := meters.Next(other)
		if x != y || e != f {
			t.Errorf("Next of %v: %d, %d; of %v: %d, %d", m, x, e, other, y, f)
		}
	})
}
