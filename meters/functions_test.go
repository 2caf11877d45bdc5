package meters_test

import (
	"slices"
	"testing"

	"shellac/api"
	"shellac/meters"
)

// count returns the numbers from low to high.
func count(low, high int) []int {
	var l []int
	for n := low; n <= high; n++ {
		l = append(l, n)
	}
	return l
}

// P4.2: the chapter's example, and the edges: nothing is read, all is right, none of two is, and Wrong does not matter.
func TestFewest(t *testing.T) {
	for i, x := range []struct {
		m    api.Meter
		want int
	}{
		{meterM(), 0},
		{meterN(), 1},
		{wrong(meterN(), 7), 1},
		{newMeter(), 0},
		{wrong(newMeter(), 7), 0},
		{widest(), 0},
		{read(newMeter(), 0, 5, 0, 5), 0},
		{read(newMeter(), 0, 5, 0, 6), 1},
		{read(newMeter(), 0, 5, 0, 6, 0, 5), 1},
		{read(newMeter(), 0, 1, 0, 2, 0, 3, 0, 4, 0, 5, 0, 6, 0, 7), 6},
		{read(newMeter(span(3, 5)), 0, 98, 1, 1), 0},
		{read(newMeter(span(3, 5)), 0, 98, 1, 3), 0},
		{read(newMeter(span(3, 5)), 0, 98, 1, 4), 1},
		{read(newMeter(span(3, 5)), 0, 98, 1, 0), 1},
		{read(newMeter(span(3, 5), span(0, 1)), 0, 98, 1, 4, 2, 4), 1},
		{read(newMeter(span(3, 5), span(0, 1)), 0, 98, 1, 7, 2, 4), 1},
		{read(newMeter(span(3, 5), span(0, 1)), 0, 98, 1, 7, 2, 5), 2},
		{read(newMeter(span(0, 99)), 0, 98, 1, 97), 0},
		{read(newMeter(span(0, 98)), 0, 98, 1, 97), 1},
		{read(newMeter(span(200, 298)), 0, 98, 1, 97), 1},
		{read(newMeter(span(200, 299)), 0, 98, 1, 97), 0},
		{read(newMeter(span(300, 300)), 0, 0, 1, 0), 0},
		{read(widest(), 0, 0, 1, 50, 2, 49, 3, 48, 4, 47, 5, 46), 0},
	} {
		if n, e := meters.Fewest(x.m); n != x.want || e != api.OK {
			t.Errorf("%d: Fewest = %d, %d", i, n, e)
		}
	}
}

// P4.3: the chapter's examples, readings that are the same, and readings one of which must be wrong.
func TestStrangeAndSure(t *testing.T) {
	// either the readings 0 and 1 are right, or 1 and 2; 3 is never right
	line := read(newMeter(span(0, 2), span(10, 10)), 0, 50, 1, 52, 2, 62, 0, 70)
	for i, x := range []struct {
		m             api.Meter
		strange, sure []int
	}{
		{meterM(), nil, []int{0, 1, 2}},
		{wrong(meterM(), 1), nil, nil},
		{wrong(meterN(), 1), nil, []int{0, 1}},
		{wrong(meterN(), 2), nil, nil},
		{newMeter(), nil, nil},
		{wrong(newMeter(), 7), nil, nil},
		{read(newMeter(), 0, 5, 0, 5), nil, []int{0, 1}},
		{wrong(read(newMeter(), 0, 5, 0, 5), 1), nil, []int{0, 1}},
		{wrong(read(newMeter(), 0, 5, 0, 5), 2), nil, nil},
		{wrong(read(newMeter(), 0, 5, 0, 6), 1), nil, nil},
		{wrong(read(newMeter(), 0, 5, 0, 6, 0, 5), 1), []int{1}, []int{0, 2}},
		{wrong(line, 1), []int{3}, []int{0, 1, 2}},
		{wrong(line, 2), []int{3}, []int{1, 2}},
		{wrong(line, 3), nil, nil},
		{wrong(read(newMeter(span(3, 5)), 1, 9, 0, 98, 0, 98), 1), []int{0}, []int{1, 2}},
		{wrong(read(newMeter(span(3, 5)), 1, 9, 0, 98, 0, 98), 2), nil, nil},
	} {
		strange, e := meters.Strange(x.m)
		sure, f := meters.Sure(x.m)
		if !slices.Equal(strange, x.strange) || e != api.OK || !slices.Equal(sure, x.sure) || f != api.OK {
			t.Errorf("%d: Strange = %v, %d; Sure = %v, %d", i, strange, e, sure, f)
		}
	}
}

// P4.4: the chapter's examples, weeks that go round, and weeks that nothing is read of.
func TestWeek(t *testing.T) {
	for i, x := range []struct {
		m    api.Meter
		week int
		want api.Span
	}{
		{meterM(), 0, span(15, 115)},
		{meterM(), 1, span(25, 25)},
		{wrong(meterN(), 1), 0, span(15, 115)},
		{wrong(meterN(), 1), 1, span(25, 30)},
		{newMeter(span(7, 250)), 0, span(7, 250)},
		{wrong(read(newMeter(span(7, 250)), 0, 0, 1, 0), 1), 0, span(7, 250)},
		{read(newMeter(span(7, 250)), 0, 0, 1, 0), 0, span(100, 200)},
		{read(newMeter(span(7, 250)), 0, 0, 1, 7), 0, span(7, 207)},
		{read(newMeter(span(7, 250)), 0, 0, 1, 6), 0, span(106, 206)},
		{read(newMeter(span(7, 250)), 0, 0, 1, 50), 0, span(50, 250)},
		{read(newMeter(span(7, 250)), 0, 0, 1, 51), 0, span(51, 151)},
		{read(newMeter(span(0, 300)), 0, 0, 1, 0), 0, span(0, 300)},
		{read(widest(), 2, 99, 3, 0), 2, span(1, 201)},
		{read(widest(), 2, 99, 3, 0), 1, span(0, 300)},
		{read(newMeter(span(0, 9), span(5, 9)), 0, 95, 2, 5), 0, span(1, 5)},
		{read(newMeter(span(0, 9), span(5, 9)), 0, 95, 2, 5), 1, span(5, 9)},
		{read(newMeter(span(0, 9), span(5, 9)), 0, 95, 2, 13), 0, span(9, 9)},
	} {
		if s, e := meters.Week(x.m, x.week); s != x.want || e != api.OK {
			t.Errorf("%d: Week = %v, %d", i, s, e)
		}
	}
}

// P4.5: the chapter's examples, parts of the weeks, and all sums that there can be.
func TestSums(t *testing.T) {
	for i, x := range []struct {
		m        api.Meter
		from, to int
		want     []int
	}{
		{meterM(), 0, 2, []int{40, 140}},
		{meterM(), 0, 1, []int{15, 115}},
		{meterM(), 1, 2, []int{25}},
		{meterM(), 1, 1, []int{0}},
		{wrong(meterN(), 1), 1, 2, []int{25, 30}},
		{wrong(meterN(), 1), 0, 2, []int{40, 45, 140, 145}},
		{newMeter(), 0, 0, []int{0}},
		{widest(), 0, 5, count(0, 1500)},
		{widest(), 1, 3, count(0, 600)},
		{widest(), 5, 5, []int{0}},
		{newMeter(slices.Repeat([]api.Span{span(300, 300)}, 5)...), 0, 5, []int{1500}},
		{newMeter(slices.Repeat([]api.Span{span(299, 300)}, 5)...), 0, 5, count(1495, 1500)},
		{newMeter(span(0, 0), span(64, 64), span(128, 129)), 1, 3, []int{192, 193}},
		{read(widest(), 0, 0, 5, 0), 0, 5, []int{0, 100, 200, 300, 400, 500, 600, 700, 800, 900, 1000, 1100, 1200, 1300, 1400, 1500}},
		{read(widest(), 1, 30, 3, 29), 1, 3, []int{99, 199, 299, 399, 499, 599}},
		{wrong(read(newMeter(span(0, 20)), 0, 0, 0, 1, 1, 10), 1), 0, 1, []int{9, 10}},
		{wrong(read(newMeter(span(0, 20)), 0, 0, 0, 1, 1, 10), 2), 0, 1, count(0, 20)},
	} {
		if l, e := meters.Sums(x.m, x.from, x.to); !slices.Equal(l, x.want) || e != api.OK {
			t.Errorf("%d: Sums = %v, %d", i, l, e)
		}
	}
}

// P4.6: the chapter's example, and what the meter shows before and behind its readings.
func TestShows(t *testing.T) {
	for i, x := range []struct {
		m     api.Meter
		after int
		want  []int
	}{
		{meterM(), 0, []int{95}},
		{meterM(), 1, []int{10}},
		{meterM(), 2, []int{35}},
		{wrong(meterN(), 1), 2, []int{35, 40}},
		{newMeter(), 0, count(0, 99)},
		{wrong(read(newMeter(), 0, 5), 1), 0, count(0, 99)},
		{read(newMeter(), 0, 5), 0, []int{5}},
		{wrong(read(newMeter(), 0, 8, 0, 5), 1), 0, []int{5, 8}},
		{read(newMeter(span(3, 5)), 0, 96), 1, []int{0, 1, 99}},
		{read(newMeter(span(3, 5)), 1, 4), 0, []int{0, 1, 99}},
		{read(newMeter(span(0, 98)), 0, 0), 1, count(0, 98)},
		{read(newMeter(span(201, 299)), 0, 0), 1, count(1, 99)},
		{read(newMeter(span(0, 9), span(5, 9)), 0, 95, 2, 5), 1, []int{0, 96, 97, 98, 99}},
	} {
		if l, e := meters.Shows(x.m, x.after); !slices.Equal(l, x.want) || e != api.OK {
			t.Errorf("%d: Shows = %v, %d", i, l, e)
		}
	}
}

// P4.7: the chapter's example, no weeks, and meters that just go round or just do not.
func TestRounds(t *testing.T) {
	for i, x := range []struct {
		m    api.Meter
		want api.Span
	}{
		{meterM(), span(1, 2)},
		{newMeter(), span(0, 0)},
		{read(newMeter(), 0, 99), span(0, 0)},
		{newMeter(span(0, 0)), span(0, 0)},
		{newMeter(span(0, 1)), span(0, 1)},
		{newMeter(span(99, 99)), span(0, 1)},
		{newMeter(span(100, 100)), span(1, 1)},
		{newMeter(span(101, 101)), span(1, 2)},
		{widest(), span(0, 15)},
		{newMeter(slices.Repeat([]api.Span{span(300, 300)}, 5)...), span(15, 15)},
		{read(newMeter(span(1, 4)), 0, 95), span(0, 0)},
		{read(newMeter(span(1, 5)), 0, 95), span(0, 1)},
		{read(newMeter(span(5, 5)), 0, 95), span(1, 1)},
		{read(newMeter(span(1, 104)), 0, 95), span(0, 1)},
		{read(newMeter(span(1, 105)), 0, 95), span(0, 2)},
		{read(newMeter(span(2, 3), span(2, 3)), 2, 0), span(1, 1)},
		{read(newMeter(span(2, 3), span(2, 3)), 2, 99), span(0, 0)},
		{read(newMeter(span(2, 3), span(2, 3)), 2, 5), span(0, 1)},
	} {
		if s, e := meters.Rounds(x.m); s != x.want || e != api.OK {
			t.Errorf("%d: Rounds = %v, %d", i, s, e)
		}
	}
}

// P4.8: the chapter's examples, and meters one more reading of which tells more than another one.
func TestNext(t *testing.T) {
	for i, x := range []struct {
		m    api.Meter
		want int
	}{
		{meterM(), 0},
		{wrong(meterN(), 1), 2},
		{newMeter(), 0},
		{widest(), 0},
		{newMeter(span(0, 9), span(3, 3)), 0},
		// known at the beginning: only the end tells the sum, or what comes before weeks with one number of plays
		{read(newMeter(span(0, 9), span(0, 1)), 0, 0), 2},
		{read(newMeter(span(0, 9), span(5, 5)), 0, 0), 1},
		{read(newMeter(span(0, 1), span(0, 9), span(5, 5)), 0, 0), 2},
		{read(newMeter(span(0, 9), span(0, 1), span(0, 9)), 0, 0), 3},
		{read(newMeter(span(0, 99), span(5, 5)), 0, 0), 1},
		// known at the end: the beginning tells all
		{read(newMeter(span(0, 9), span(0, 1)), 2, 0), 0},
		{read(newMeter(span(4, 4), span(0, 9), span(0, 1)), 3, 0), 0},
		// known at both ends
		{read(newMeter(span(0, 150), span(0, 150)), 0, 0, 2, 0), 1},
		{read(newMeter(span(0, 99), span(0, 9)), 0, 0, 2, 0), 1},
	} {
		if n, e := meters.Next(x.m); n != x.want || e != api.OK {
			t.Errorf("%d: Next = %d, %d", i, n, e)
		}
	}
}

// checkTruths compares all that is said of a meter with what is seen in its truths.
func checkTruths(t *testing.T, m api.Meter) {
	t.Helper()
	if n, e := meters.Fewest(m); n != fewestBy(m) || e != api.OK {
		t.Errorf("Fewest of %v = %d, %d, not %d", m, n, e, fewestBy(m))
	}
	s, weeks := look(m), len(m.Weeks)
	if s.count == 0 {
		for name, a := range answersOf(m, weeks-1, 0, weeks) {
			if name != "Fewest" && a != (answer{api.ErrNone, true}) && (name != "Week" || weeks > 0) {
				t.Errorf("%s of %v: %v, but there is no truth", name, m, a)
			}
		}
		return
	}
	same := func(name string, l []int, e api.Errno, want []int) {
		if !slices.Equal(l, want) || e != api.OK {
			t.Errorf("%s of %v = %v, %d, not %v", name, m, l, e, want)
		}
	}
	for week := range weeks {
		got, e := meters.Week(m, week)
		if want := s.sums[[2]int{week, week + 1}].ends(); got != want || e != api.OK {
			t.Errorf("Week of %v, %d = %v, %d, not %v", m, week, got, e, want)
		}
	}
	for from := range weeks + 1 {
		l, e := meters.Shows(m, from)
		same("Shows", l, e, s.shows[from].list())
		for to := from; to <= weeks; to++ {
			l, e = meters.Sums(m, from, to)
			same("Sums", l, e, s.sums[[2]int{from, to}].list())
		}
	}
	if got, e := meters.Rounds(m); got != s.rounds.ends() || e != api.OK {
		t.Errorf("Rounds of %v = %v, %d, not %v", m, got, e, s.rounds.ends())
	}
	l, e := meters.Strange(m)
	same("Strange", l, e, s.strange)
	l, e = meters.Sure(m)
	same("Sure", l, e, s.sure)
	if n, e := meters.Next(m); n != s.next(weeks) || e != api.OK {
		t.Errorf("Next of %v = %d, %d, not %d", m, n, e, s.next(weeks))
	}
}

// P4.2 to P4.8: all functions say what is seen in all truths, each of them gone through.
func TestAllTruths(t *testing.T) {
	for m := range drawn(400, few) {
		checkTruths(t, m)
	}
	for m := range drawn(250, many) {
		checkTruths(t, m)
	}
	for m := range drawn(400, wide) {
		if len(m.Weeks) < 2 || len(m.Readings) > m.Wrong+1 {
			checkTruths(t, m)
		}
	}
	for m := range drawn(300, full) {
		if isTight(m) {
			checkTruths(t, m)
		}
	}
}

// isTight returns whether there are few truths, since all weeks are read, nearly all of them rightly.
func isTight(m api.Meter) bool {
	for after := range m.Weeks {
		if !slices.ContainsFunc(m.Readings, func(r api.MeterReading) bool { return r.After == after }) {
			return false
		}
	}
	return m.Wrong == 0
}
