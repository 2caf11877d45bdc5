package meters_test

import (
	"math"
	"slices"
	"testing"

	"shellac/api"
	"shellac/meters"
)

// ordinary is an ordinary meter with two weeks and two readings.
func ordinary() api.Meter { return wrong(read(newMeter(span(1, 5), span(2, 200)), 0, 7, 2, 40), 1) }

// with returns an ordinary meter with something changed.
func with(change func(m *api.Meter)) api.Meter {
	m := ordinary()
	change(&m)
	return m
}

func validMeters() []api.Meter {
	return []api.Meter{
		meterM(), meterN(), wrong(meterN(), 1), ordinary(), widest(), newMeter(),
		wrong(newMeter(), api.MaxReads),
		{Weeks: []api.Span{}, Readings: []api.MeterReading{}},
		read(newMeter(), 0, 99), read(newMeter(), 0, 0, 0, 0, 0, 1),
		newMeter(span(0, 0)), newMeter(span(api.MaxTurns, api.MaxTurns)), newMeter(span(0, api.MaxTurns)),
		wrong(read(widest(), 0, 0, 1, 99, 2, 50, 3, 0, 4, 99, 5, 0, 5, 99), api.MaxReads),
		read(widest(), 5, 1, 5, 1, 5, 1, 5, 1, 5, 1, 5, 1, 5, 1),
	}
}

func invalidMeters() []api.Meter {
	l := []api.Meter{
		newMeter(slices.Repeat([]api.Span{span(0, 1)}, api.MaxMeterWeeks+1)...),
		read(ordinary(), 0, 7, 0, 7, 0, 7, 0, 7, 0, 7, 0, 7),
		read(newMeter(), 1, 0),
		with(func(m *api.Meter) { m.Weeks[0] = span(6, 5) }),
		with(func(m *api.Meter) { m.Weeks[1] = span(1, 0) }),
		with(func(m *api.Meter) { m.Weeks[1] = span(api.MaxTurns, 0) }),
		with(func(m *api.Meter) { m.Weeks[0] = span(math.MinInt, math.MaxInt) }),
		{Weeks: make([]api.Span, 1000)},
		{Readings: make([]api.MeterReading, 1000)},
	}
	for _, n := range []int{-1, math.MinInt} {
		l = append(l,
			with(func(m *api.Meter) { m.Weeks[0].Low = n }),
			with(func(m *api.Meter) { m.Weeks[1].Low = n }),
			with(func(m *api.Meter) { m.Weeks[1] = span(n, n) }))
	}
	for _, n := range []int{api.MaxTurns + 1, math.MaxInt} {
		l = append(l,
			with(func(m *api.Meter) { m.Weeks[0].High = n }),
			with(func(m *api.Meter) { m.Weeks[1].High = n }),
			with(func(m *api.Meter) { m.Weeks[1] = span(n, n) }))
	}
	for _, n := range []int{-1, math.MinInt, 3, math.MaxInt} {
		l = append(l,
			with(func(m *api.Meter) { m.Readings[0].After = n }),
			with(func(m *api.Meter) { m.Readings[1].After = n }))
	}
	for _, n := range []int{-1, math.MinInt, 100, math.MaxInt} {
		l = append(l,
			with(func(m *api.Meter) { m.Readings[0].Shown = n }),
			with(func(m *api.Meter) { m.Readings[1].Shown = n }))
	}
	for _, n := range []int{-1, math.MinInt, api.MaxReads + 1, math.MaxInt} {
		l = append(l, with(func(m *api.Meter) { m.Wrong = n }))
	}
	return l
}

// withoutTruth are meters that have no truth.
func withoutTruth() []api.Meter {
	return []api.Meter{
		meterN(),
		read(newMeter(), 0, 0, 0, 1),
		wrong(read(newMeter(), 0, 0, 0, 1, 0, 2), 1),
		read(newMeter(span(3, 5)), 0, 98, 1, 4),
		read(newMeter(span(3, 5)), 0, 98, 1, 0),
		read(newMeter(span(100, 199), span(0, 98)), 0, 5, 1, 7, 2, 6),
		wrong(read(newMeter(span(0, 50)), 0, 0, 0, 0, 1, 51, 1, 52), 1),
		read(widest(), 2, 0, 2, 1),
	}
}

// outside are numbers that are never those of a week.
func outside() []int { return []int{-1, math.MinInt, api.MaxMeterWeeks + 1, math.MaxInt} }

// answer is the error of a function, and whether all its other results are zero values.
type answer struct {
	e    api.Errno
	zero bool
}

// answersOf asks all functions but Check: Week of a week, Sums from one to another one, Shows of the second one.
func answersOf(m api.Meter, week, from, to int) map[string]answer {
	all := map[string]answer{}
	for name, of := range map[string]func(api.Meter) (int, api.Errno){"Fewest": meters.Fewest, "Next": meters.Next} {
		n, e := of(m)
		all[name] = answer{e, n == 0}
	}
	for name, of := range map[string]func(api.Meter) ([]int, api.Errno){
		"Strange": meters.Strange, "Sure": meters.Sure,
		"Sums":  func(m api.Meter) ([]int, api.Errno) { return meters.Sums(m, from, to) },
		"Shows": func(m api.Meter) ([]int, api.Errno) { return meters.Shows(m, to) },
	} {
		l, e := of(m)
		all[name] = answer{e, len(l) == 0}
	}
	s, e := meters.Week(m, week)
	all["Week"] = answer{e, s == api.Span{}}
	s, e = meters.Rounds(m)
	all["Rounds"] = answer{e, s == api.Span{}}
	return all
}

// P4.1: which meters are valid.
func TestCheck(t *testing.T) {
	for i, m := range validMeters() {
		if e := meters.Check(m); e != api.OK {
			t.Errorf("valid meter %d: Check = %d", i, e)
		}
	}
	for i, m := range withoutTruth() {
		if e := meters.Check(m); e != api.OK {
			t.Errorf("meter without a truth %d: Check = %d", i, e)
		}
	}
	for i, m := range invalidMeters() {
		if e := meters.Check(m); e != api.ErrMeter {
			t.Errorf("invalid meter %d: Check = %d", i, e)
		}
	}
	for m := range drawn(200, full) {
		if e := meters.Check(m); e != api.OK {
			t.Errorf("Check of %v = %d", m, e)
		}
	}
}

// P4.1, R1, R2: an invalid meter comes before an argument that is none, and before ErrNone; nothing else is said of it.
func TestInvalidMeterComesFirst(t *testing.T) {
	for i, m := range invalidMeters() {
		for _, n := range append(outside(), 0, 1) {
			for name, a := range answersOf(m, n, n, n) {
				if a.e != api.ErrMeter || !a.zero {
					t.Errorf("invalid meter %d, %d: %s: %d, zero: %t", i, n, name, a.e, a.zero)
				}
			}
		}
	}
}

// P4.4 to P4.6, R1, R2: the arguments that are none, also if there is no truth, and those that just are.
func TestArguments(t *testing.T) {
	for i, m := range slices.Concat(validMeters(), withoutTruth()) {
		weeks := len(m.Weeks)
		want := api.OK
		if fewestBy(m) > m.Wrong {
			want = api.ErrNone
		}
		numbers := append(outside(), -2, weeks+1)
		for n := range weeks + 1 {
			numbers = append(numbers, n)
		}
		for _, n := range numbers {
			s, e := meters.Week(m, n)
			is(t, i, "Week", n, n, answer{e, s == api.Span{}}, n >= 0 && n < weeks, want)
			shows, e := meters.Shows(m, n)
			is(t, i, "Shows", n, n, answer{e, len(shows) == 0}, n >= 0 && n <= weeks, want)
			for _, k := range numbers {
				sums, e := meters.Sums(m, n, k)
				is(t, i, "Sums", n, k, answer{e, len(sums) == 0}, n >= 0 && n <= k && k <= weeks, want)
			}
		}
	}
}

// is reports an answer that is not ErrArg though an argument is none, or not the wanted one though all are there.
func is(t *testing.T, i int, name string, a, b int, got answer, there bool, want api.Errno) {
	t.Helper()
	if !there {
		want = api.ErrArg
	}
	if got.e != want || want != api.OK && !got.zero {
		t.Errorf("%d: %s of %d, %d: %d, zero: %t", i, name, a, b, got.e, got.zero)
	}
}

// P4.2 to P4.8: ErrNone if there is no truth; Check and Fewest have a result nevertheless.
func TestNoTruth(t *testing.T) {
	for i, m := range withoutTruth() {
		if len(m.Weeks) == 0 {
			m.Weeks = []api.Span{span(1, 2)}
		}
		for name, a := range answersOf(m, 0, 0, 1) {
			if name == "Fewest" {
				if a.e != api.OK || a.zero {
					t.Errorf("%d: Fewest: %d, zero: %t", i, a.e, a.zero)
				}
				continue
			}
			if a.e != api.ErrNone || !a.zero {
				t.Errorf("%d: %s: %d, zero: %t", i, name, a.e, a.zero)
			}
		}
	}
}
