package meters_test

import (
	"fmt"
	"math"
	"slices"
	"testing"

	"shellac/api"
	"shellac/meters"
)

// answers returns all that the functions say of arguments, as one text.
func answers(m api.Meter, a, b int) string {
	text := fmt.Sprint(meters.Check(m))
	for _, of := range []func(api.Meter) (int, api.Errno){meters.Fewest, meters.Next} {
		n, e := of(m)
		text += fmt.Sprint(";", n, e)
	}
	for _, of := range lists(a, b) {
		l, e := of(m)
		text += fmt.Sprint(";", l, e)
	}
	for _, of := range []func(api.Meter) (api.Span, api.Errno){
		meters.Rounds,
		func(m api.Meter) (api.Span, api.Errno) { return meters.Week(m, a) },
	} {
		s, e := of(m)
		text += fmt.Sprint(";", s, e)
	}
	return text
}

// lists are all functions that return a list.
func lists(a, b int) []func(api.Meter) ([]int, api.Errno) {
	return []func(api.Meter) ([]int, api.Errno){
		meters.Strange, meters.Sure,
		func(m api.Meter) ([]int, api.Errno) { return meters.Sums(m, a, b) },
		func(m api.Meter) ([]int, api.Errno) { return meters.Shows(m, b) },
	}
}

// P1: every function returns, whatever it is given.
func TestAnyArguments(t *testing.T) {
	edges := []int{0, 1, -1, 5, 6, 7, math.MaxInt, math.MinInt}
	wild := []api.Meter{
		read(newMeter(span(math.MinInt, math.MaxInt), span(math.MaxInt, math.MinInt)), math.MaxInt, math.MinInt),
		wrong(read(newMeter(span(0, math.MaxInt)), math.MinInt, math.MaxInt), math.MinInt),
		wrong(newMeter(make([]api.Span, 1000)...), math.MaxInt),
	}
	for _, m := range slices.Concat(validMeters(), invalidMeters(), withoutTruth(), wild) {
		for _, a := range edges {
			for _, b := range []int{a, math.MaxInt, math.MinInt} {
				answers(m, a, b)
			}
		}
	}
}

// P1: the greatest meters are done in time.
func TestGreatestArguments(t *testing.T) {
	for most := range api.MaxReads + 1 {
		m := wrong(read(widest(), 0, 3, 1, 50, 2, 7, 3, 98, 4, 1, 5, 77, 5, 78), most)
		s := say(t, m)
		if s.fewest != 1 || s.truths != (most > 0) {
			t.Fatalf("with %d: Fewest = %d, there is a truth: %t", most, s.fewest, s.truths)
		}
		if most == 0 {
			continue
		}
		// one of the last two is wrong; if one more can be, so can the first one
		rests := numbers{}
		for _, n := range s.sums[[2]int{0, 5}] {
			rests[n%100] = true
		}
		want := count(0, 99)
		if most == 1 {
			want = []int{74, 75}
		}
		if !slices.Equal(rests.list(), want) {
			t.Errorf("with %d: the Sums end in %v", most, rests.list())
		}
		if n, e := meters.Next(m); e != api.OK || n < 0 || n > 5 {
			t.Errorf("with %d: Next = %d, %d", most, n, e)
		}
	}
}

// R3: nil and empty lists are the same.
func TestNilAndEmpty(t *testing.T) {
	for _, x := range [][2]api.Meter{
		{{}, {Weeks: []api.Span{}, Readings: []api.MeterReading{}}},
		{{Wrong: 2}, {Weeks: []api.Span{}, Readings: []api.MeterReading{}, Wrong: 2}},
		{{Weeks: []api.Span{{Low: 3, High: 5}}}, {Weeks: []api.Span{{Low: 3, High: 5}}, Readings: []api.MeterReading{}}},
		{{Readings: []api.MeterReading{{Shown: 4}}}, {Weeks: []api.Span{}, Readings: []api.MeterReading{{Shown: 4}}}},
	} {
		if a, b := answers(x[0], 0, 0), answers(x[1], 0, 0); a != b {
			t.Errorf("nil: %s; empty: %s", a, b)
		}
	}
}

// R4: no argument is changed, nor the memory behind it.
func TestArgumentsStay(t *testing.T) {
	for m := range drawn(60, few) {
		weeks := append(slices.Clone(m.Weeks), span(77, 77), span(77, 77))
		readings := append(slices.Clone(m.Readings), api.MeterReading{After: 77}, api.MeterReading{After: 77})
		text := fmt.Sprint(weeks, readings)
		m.Weeks, m.Readings = weeks[:len(m.Weeks)], readings[:len(m.Readings)]
		for a := range len(m.Weeks) + 1 {
			answers(m, a, len(m.Weeks))
			for _, of := range lists(a, len(m.Weeks)) {
				l, _ := of(m)
				spoil(l)
			}
		}
		if after := fmt.Sprint(weeks, readings); after != text {
			t.Errorf("changed from %s to %s", text, after)
		}
	}
}

// spoil writes over a list, and over the memory behind it.
func spoil(list []int) {
	list = list[:cap(list)]
	for i := range list {
		list[i] = 99
	}
}

// R4, and no state is kept: a result is new memory each time, and what was asked before changes no answer.
func TestResultsAreNew(t *testing.T) {
	m, n := meterM(), wrong(meterN(), 1)
	a, b := answers(m, 0, 2), answers(n, 0, 2)
	if a == b {
		t.Errorf("two meters answer the same: %s", a)
	}
	for _, of := range lists(0, 2) {
		l, _ := of(m)
		spoil(l)
		l, _ = of(n)
		spoil(l)
	}
	if again := answers(m, 0, 2); again != a {
		t.Errorf("first %s, then %s", a, again)
	}
	if again := answers(n, 0, 2); again != b {
		t.Errorf("first %s, then %s", b, again)
	}
}
