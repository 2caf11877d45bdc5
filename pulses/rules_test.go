package pulses_test

import (
	"fmt"
	"math"
	"slices"
	"testing"

	"shellac/api"
	"shellac/pulses"
)

// answers returns all that the functions say of arguments, as one text.
func answers(p api.Pulse, list []int, from, selection int, faults []api.WireFault) string {
	times, e := pulses.Write(p, list, from)
	asked, f := pulses.Asked(p, selection)
	plays, g := pulses.Plays(p, faults)
	text := fmt.Sprint(pulses.Check(p), "; ", times, e, "; ", asked, f, "; ", plays, g)
	for _, of := range []func(api.Pulse) (int, api.Errno){pulses.Fewest, pulses.Many, pulses.Lists} {
		n, e := of(p)
		text += fmt.Sprint("; ", n, e)
	}
	for _, of := range lists() {
		l, e := of(p)
		text += fmt.Sprint("; ", l, e)
	}
	return text
}

// lists are the functions that return a list of a train.
func lists() []func(api.Pulse) ([]int, api.Errno) {
	return []func(api.Pulse) ([]int, api.Errno){pulses.Read, pulses.Real, pulses.Sparks}
}

// P1: every function returns, whatever it is given.
func TestAnyArguments(t *testing.T) {
	all := func(n int) api.Pulse {
		return api.Pulse{Letters: n, Numbers: n, Pitch: n, Slack: n, Gap: n, Pause: n, Sparks: n, Times: []int{n, n}}
	}
	edges := []int{0, 1, 11, 12, 24, api.MaxTime, api.MaxTime + 1, -1, math.MinInt, math.MaxInt}
	wild := []api.Pulse{all(math.MaxInt), all(math.MinInt), all(math.MaxInt/2 + 1), all(1), {Letters: 1, Numbers: 1, Pitch: math.MaxInt, Slack: math.MaxInt - 1, Gap: math.MinInt, Pause: 5}}
	sets := slices.Concat(goodSets(), badSets())
	for i, p := range slices.Concat(readable(), unreadable(), invalidTrains(), wild) {
		for j, n := range edges {
			answers(p, []int{n}, edges[(i+j)%len(edges)], n, sets[(i+j)%len(sets)])
			answers(timed(p, n, n), make([]int, max(0, min(n, 1000))), n, n, sets[j])
		}
		for _, list := range badLists() {
			answers(p, list, 0, 0, nil)
		}
	}
}

// P1: the greatest arguments are done in time, also if there are as many readings as there can be.
func TestGreatestArguments(t *testing.T) {
	for _, x := range []struct {
		p    api.Pulse
		many int
	}{
		// only both pulses of a selection can be sparks
		{timed(widest(), after(slices.Repeat([]int{999, 198}, 12)...)...), 13},
		// each set of at most three sparks is a reading
		{timed(widest(), after(slices.Repeat([]int{999, 49, 49, 49, 198, 49, 49, 49}, 3)...)...), 1 + 24 + 276 + 2024},
		{timed(widest(), atLast(api.MaxPulses, 99)...), 0},
	} {
		want := api.OK
		if x.many == 0 {
			want = api.ErrNone
		}
		if n, e := pulses.Many(x.p); n != x.many || e != want {
			t.Errorf("Many of %v = %d, %d, not %d", x.p, n, e, x.many)
		}
		if n := len(hear(x.p, api.MaxSparks)); n != x.many {
			t.Errorf("%v has %d readings, not %d", x.p, n, x.many)
		}
		answers(x.p, []int{24, 24}, api.MaxTime, 24, nil)
	}
}

// R3: nil and empty lists are the same.
func TestNilAndEmpty(t *testing.T) {
	for _, p := range []api.Pulse{train(0), train(3), {}} {
		if a, b := answers(timed(p), nil, 0, 0, nil), answers(timed(p, []int{}...), []int{}, 0, 0, []api.WireFault{}); a != b {
			t.Errorf("nil: %s; empty: %s", a, b)
		}
	}
}

// roomy returns a copy of a list with memory behind it.
func roomy[T any](list []T) []T {
	return append(slices.Clone(list), make([]T, 2)...)[:len(list)]
}

// spoil writes over a list, and over the memory behind it.
func spoil(list []int) {
	list = list[:cap(list)]
	for i := range list {
		list[i] = 77
	}
}

// R4: no argument is changed, nor the memory behind it, also if a result is changed.
func TestArgumentsStay(t *testing.T) {
	for p, draw := range drawn(60, some) {
		p.Times = roomy(p.Times)
		list := roomy(drawList(draw, p, 20))
		faults := roomy([]api.WireFault{{Kind: api.DeadLetter}, {Kind: api.DeadNumber}})
		whole := func() string {
			return fmt.Sprint(p, p.Times[:cap(p.Times)], list[:cap(list)], faults[:cap(faults)])
		}
		text := whole()
		answers(p, list, 5, 0, faults)
		for _, of := range lists() {
			l, _ := of(p)
			spoil(l)
		}
		times, _ := pulses.Write(p, list, 5)
		spoil(times)
		plays, _ := pulses.Plays(p, faults)
		spoil(plays)
		if after := whole(); after != text {
			t.Errorf("changed from %s to %s", text, after)
		}
	}
}

// R4: a result is new memory each time.
func TestResultsAreNew(t *testing.T) {
	for range 2 {
		times, _ := pulses.Write(train(0), []int{0}, 0)
		read, _ := pulses.Read(trainU())
		real, _ := pulses.Real(trainU())
		sparks, _ := pulses.Sparks(train(1, 5))
		plays, _ := pulses.Plays(trainU(), nil)
		if !slices.Equal(times, []int{0, 30}) || !slices.Equal(read, []int{0}) || !slices.Equal(real, []int{0}) || !slices.Equal(sparks, []int{0}) || !slices.Equal(plays, []int{0}) {
			t.Errorf("Write = %v, Read = %v, Real = %v, Sparks = %v, Plays = %v", times, read, real, sparks, plays)
		}
		for _, l := range [][]int{times, read, real, sparks, plays} {
			spoil(l)
		}
	}
}

// No state is kept: what was asked before changes no answer.
func TestNoState(t *testing.T) {
	ask := func(p api.Pulse) string { return answers(p, []int{1, 4}, 7, 6, nil) }
	a, b := ask(trainT()), ask(trainU())
	if a == b {
		t.Errorf("two trains answer the same: %s", a)
	}
	if again := ask(trainT()); again != a {
		t.Errorf("first %s, then %s", a, again)
	}
	if again := ask(trainU()); again != b {
		t.Errorf("first %s, then %s", b, again)
	}
}
