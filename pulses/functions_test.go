package pulses_test

import (
	"math/rand/v2"
	"slices"
	"testing"

	"shellac/api"
	"shellac/pulses"
)

// P13.2: the chapter's example, each letter and number, and distances of just Pitch, Gap and Pause; Sparks and Times do not matter.
func TestWrite(t *testing.T) {
	other := api.Pulse{Letters: 2, Numbers: 3, Pitch: 7, Slack: 6, Gap: 15, Pause: 400}
	for i, x := range []struct {
		p    api.Pulse
		list []int
		from int
		want []int
	}{
		{train(0), []int{1, 4}, 7, []int{7, 37, 47, 147, 157, 187}},
		{train(0), nil, 7, nil}, {train(0), []int{}, api.MaxTime, nil}, {train(0), []int{0}, 0, []int{0, 30}}, {train(0), []int{0}, 5, []int{5, 35}},
		{train(0), []int{3}, 0, []int{0, 30, 40, 50, 60}}, {train(0), []int{8}, 0, []int{0, 10, 20, 50}}, {train(0), []int{11}, 1, []int{1, 11, 21, 51, 61, 71, 81}},
		{train(0), []int{0, 0, 0}, 0, []int{0, 30, 130, 160, 260, 290}}, {train(0), []int{6}, api.MaxTime - 60, []int{99939, 99949, 99979, 99989, 99999}},
		{other, []int{0, 5}, 0, []int{0, 15, 415, 422, 437, 444, 451}}, {other, []int{2, 3}, 100, []int{100, 115, 122, 129, 529, 536, 551}},
		{closest(), []int{0, 0, 0}, 0, []int{0, 2, 5, 7, 10, 12}}, {widest(), []int{20, 4}, 0, []int{0, 99, 198, 297, 396, 594, 1593, 1791, 1890, 1989, 2088, 2187}},
	} {
		for _, p := range []api.Pulse{x.p, sparked(x.p, api.MaxSparks), timed(x.p, 0), timed(x.p, atLast(api.MaxPulses, 1)...)} {
			if times, e := pulses.Write(p, x.list, x.from); !slices.Equal(times, x.want) || e != api.OK {
				t.Errorf("%d: Write of %v, %v from %d = %v, %d, not %v", i, p, x.list, x.from, times, e, x.want)
			}
		}
	}
}

// P13.5 (clean): without sparks just the clean pulses are read: distances at all their bounds and beyond, groups that are too long or that lack, and how selections are counted.
func TestClean(t *testing.T) {
	odd := api.Pulse{Letters: 1, Numbers: 2, Pitch: 5, Slack: 4, Gap: 10, Pause: 11}
	for i, x := range []struct {
		p    api.Pulse
		list []int
		none bool // the pulses are not clean
	}{
		{train(0), nil, false},
		{train(0, after(0, 10, 30, 10, 10)...), []int{6}, false}, {train(0, after(99, 10, 30, 10, 10)...), []int{6}, false},
		{train(0, after(0, 30)...), []int{0}, false}, {train(0, after(0, 10, 10, 30)...), []int{8}, false}, {train(0, after(0, 30, 10, 10, 10)...), []int{3}, false}, {train(0, after(0, 10, 10, 30, 10, 10, 10)...), []int{11}, false},
		// from Pitch less Slack to Pitch and Slack
		{train(0, after(0, 8, 30, 8)...), []int{5}, false}, {train(0, after(0, 12, 30, 12)...), []int{5}, false},
		{train(0, after(0, 7, 30, 8)...), nil, true}, {train(0, after(0, 13, 30, 12)...), nil, true}, {train(0, after(0, 8, 30, 7)...), nil, true}, {train(0, after(0, 12, 30, 13)...), nil, true}, {train(0, after(0, 30, 29)...), nil, true},
		// from Gap to Pause less 1
		{train(0, after(0, 99)...), []int{0}, false}, {train(0, after(0, 29)...), nil, true}, {train(0, after(0, 100)...), nil, true}, {train(0, after(0, 13)...), nil, true}, {train(0, after(0, 10, 29, 10)...), nil, true},
		// at least Pause
		{train(0, after(0, 30, 100, 30)...), []int{0, 0}, false}, {train(0, after(0, 30, 9999, 10, 40, 10)...), []int{0, 5}, false}, {train(0, after(0, 30, 99, 30)...), nil, true}, {train(0, after(0, 30, 13, 30)...), nil, true},
		{train(0, after(0, 30, 10, 100, 10, 10, 30, 200, 99)...), []int{1, 8, 0}, false},
		// a selection has two groups, of at most as many pulses as there are letters and numbers
		{train(0, 0), nil, true}, {train(0, after(0, 10)...), nil, true}, {train(0, after(0, 30, 30)...), nil, true}, {train(0, after(0, 30, 30, 30)...), nil, true}, {train(0, after(0, 30, 100)...), nil, true}, {train(0, after(0, 100, 30)...), nil, true},
		{train(0, after(0, 10, 10, 10, 30)...), nil, true}, {train(0, after(0, 30, 10, 10, 10, 10)...), nil, true}, {train(0, after(0, 30, 100, 10, 10, 10, 30)...), nil, true},
		{odd, nil, false}, {timed(odd, after(0, 10, 1, 11, 10, 9)...), []int{1, 1}, false}, {timed(odd, after(0, 10, 9, 11, 10)...), []int{1, 0}, false}, {timed(odd, after(0, 1, 10)...), nil, true}, {timed(odd, after(0, 10, 10)...), nil, true},
		{timed(closest(), after(0, 2, 3, 2)...), []int{0, 0}, false}, {timed(closest(), after(0, 2, 3, 1)...), nil, true}, {timed(closest(), after(0, 3)...), nil, true},
		{timed(sparked(widest(), 0), after(0, 1, 197, 1, 197, 998, 1, 1, 1, 1)...), []int{24}, false}, {timed(sparked(widest(), 0), after(0, 999)...), nil, true}, {timed(sparked(widest(), 0), after(0, 998, 197, 99999-998-197)...), nil, true},
		{timed(closest(), after(slices.Repeat([]int{3, 2}, 12)...)...), make([]int, 12), false},
	} {
		want, many := api.OK, 1
		if x.none {
			want, many = api.ErrNone, 0
		}
		if list, e := pulses.Read(x.p); !slices.Equal(list, x.list) || e != want {
			t.Errorf("%d: Read of %v = %v, %d, not %v, %d", i, x.p, list, e, x.list, want)
		}
		if n, e := pulses.Many(x.p); n != many || e != want {
			t.Errorf("%d: Many of %v = %d, %d, not %d, %d", i, x.p, n, e, many, want)
		}
		if n, e := pulses.Fewest(x.p); e == api.OK && (n == 0) == x.none {
			t.Errorf("%d: Fewest of %v = %d", i, x.p, n)
		}
	}
}

// P13.3: the chapter's example, sparks at all places, and Sparks does not matter.
func TestFewest(t *testing.T) {
	for i, x := range []struct {
		times []int
		want  int
	}{
		{trainU().Times, 1}, {trainT().Times, 0}, {nil, 0}, {[]int{0}, 1}, {[]int{0, 1}, 2}, {[]int{0, 1, 2}, 3}, {[]int{0, 30}, 0}, {[]int{0, 31, 60}, 1}, {[]int{0, 100, 130}, 1}, {[]int{0, 30, 130}, 1}, {[]int{0, 30, 60}, 1},
		// without a spark the distance is greater
		{[]int{0, 5, 10, 40}, 1}, {[]int{0, 4, 9, 40}, 1}, {[]int{0, 4, 20, 50}, 2}, {[]int{0, 15, 30}, 1}, {[]int{0, 15, 16, 17, 30}, 3}, {[]int{0, 30, 65, 130, 165}, 1}, {[]int{0, 30, 80, 130, 131, 160, 190}, 3},
		// too long groups
		{[]int{0, 10, 20, 30, 60}, 1}, {[]int{0, 30, 40, 50, 60, 70}, 1}, {[]int{0, 10, 20, 30, 60, 70, 80, 90, 100}, 2}, {[]int{0, 10, 20, 30, 40, 50, 80}, 3},
	} {
		for most := range api.MaxSparks + 1 {
			if n, e := pulses.Fewest(train(most, x.times...)); n != x.want || e != api.OK {
				t.Errorf("%d: Fewest of %v with %d = %d, %d, not %d", i, x.times, most, n, e, x.want)
			}
		}
	}
}

// P13.4, P13.5: the chapter's examples, more sparks, and readings that have the same list; -1: ErrMany.
func TestManyListsRead(t *testing.T) {
	many := []int{-1}
	for i, x := range []struct {
		p           api.Pulse
		many, lists int
		list        []int
	}{
		{trainT(), 5, 3, many}, {sparked(trainT(), 0), 1, 1, []int{6}}, {trainU(), 2, 1, []int{0}},
		// of one pulse less there are the lists 2 and 5, of two less 4 and 1
		{sparked(trainT(), 2), 12, 5, many},
		{train(0), 1, 1, nil}, {train(3), 1, 1, nil}, {train(1, 0), 1, 1, nil}, {train(3, 0), 1, 1, nil}, {train(2, 0, 1), 1, 1, nil}, {train(3, 0, 1, 2), 1, 1, nil}, {train(3, 0, 30), 2, 2, many}, {train(1, 0, 30), 1, 1, []int{0}},
		{train(1, 0, 5, 10, 40), 1, 1, []int{4}}, {train(2, 0, 5, 10, 40), 4, 2, many}, {train(1, 0, 1, 31), 2, 1, []int{0}}, {train(1, 0, 30, 31, 131, 161), 2, 1, []int{0, 0}},
		{train(1, 0, 30, 130, 131, 160, 161), 0, 0, nil}, {train(2, 0, 30, 130, 131, 161, 162), 4, 1, []int{0, 0}},
	} {
		want, read := api.OK, api.OK
		switch {
		case x.many == 0:
			want, read = api.ErrNone, api.ErrNone
		case slices.Equal(x.list, many):
			x.list, read = nil, api.ErrMany
		}
		n, e := pulses.Many(x.p)
		lists, f := pulses.Lists(x.p)
		if n != x.many || e != want || lists != x.lists || f != want {
			t.Errorf("%d: of %v: Many = %d, %d, not %d; Lists = %d, %d, not %d", i, x.p, n, e, x.many, lists, f, x.lists)
		}
		if list, e := pulses.Read(x.p); !slices.Equal(list, x.list) || e != read {
			t.Errorf("%d: Read of %v = %v, %d, not %v, %d", i, x.p, list, e, x.list, read)
		}
	}
}

// P13.6: the chapter's examples, and a selection that is asked for more than once.
func TestAsked(t *testing.T) {
	for i, x := range []struct {
		p         api.Pulse
		selection int
		low, high int
	}{
		{trainT(), 6, 0, 1}, {trainT(), 2, 0, 1}, {trainT(), 0, 0, 0}, {trainT(), 5, 0, 1}, {trainT(), 11, 0, 0}, {sparked(trainT(), 0), 6, 1, 1}, {sparked(trainT(), 0), 5, 0, 0},
		{trainU(), 0, 1, 1}, {trainU(), 1, 0, 0}, {train(0), 0, 0, 0}, {train(3, 0), 11, 0, 0}, {train(1, 0, 30, 130, 160, 260, 290), 0, 3, 3}, {train(2, 0, 30, 130, 160, 260, 290), 0, 2, 3}, {train(3, 0, 30, 130, 160), 0, 1, 2},
		{train(1, after(0, 30, 10, 100, 30, 100, 30, 10)...), 1, 1, 2}, {train(1, after(0, 30, 10, 100, 30, 100, 30, 10)...), 0, 1, 2}, {timed(closest(), after(slices.Repeat([]int{3, 2}, 12)...)...), 0, 12, 12},
	} {
		if s, e := pulses.Asked(x.p, x.selection); s != (api.Span{Low: x.low, High: x.high}) || e != api.OK {
			t.Errorf("%d: Asked of %v, %d = %v, %d, not %d to %d", i, x.p, x.selection, s, e, x.low, x.high)
		}
	}
}

// P13.7: the chapter's examples, pulses that are neither, and sparks at all places.
func TestRealAndSparks(t *testing.T) {
	for i, x := range []struct {
		p            api.Pulse
		real, sparks []int
	}{
		{trainT(), []int{3}, nil}, {sparked(trainT(), 0), []int{0, 1, 2, 3, 4}, nil}, {trainU(), []int{0}, nil}, {train(0), nil, nil}, {train(1, 0), nil, []int{0}}, {train(3, 0, 1, 2), nil, []int{0, 1, 2}},
		{train(1, 0, 5, 10, 40), []int{0, 2, 3}, []int{1}}, {train(2, 0, 5, 10, 40), []int{3}, nil}, {train(2, 0, 4, 9, 40), []int{3}, nil}, {train(1, 0, 15, 30), []int{0, 2}, []int{1}},
		{train(1, 0, 100, 130), []int{1, 2}, []int{0}}, {train(1, 0, 30, 130), []int{0, 1}, []int{2}}, {train(2, 0, 30), nil, nil}, {train(3, 0, 15, 16, 17, 30), []int{0, 4}, []int{1, 2, 3}},
	} {
		real, e := pulses.Real(x.p)
		sparks, f := pulses.Sparks(x.p)
		if !slices.Equal(real, x.real) || e != api.OK || !slices.Equal(sparks, x.sparks) || f != api.OK {
			t.Errorf("%d: of %v: Real = %v, %d, not %v; Sparks = %v, %d, not %v", i, x.p, real, e, x.real, sparks, f, x.sparks)
		}
	}
}

// P13.8: the chapter's examples, dead and crossed buttons, and several selections in order.
func TestPlays(t *testing.T) {
	several := train(1, after(0, 10, 30, 10, 10, 100, 30, 100, 10, 10, 30, 10, 10, 10, 50)...)
	for i, x := range []struct {
		p      api.Pulse
		faults []api.WireFault
		want   []int
	}{
		{trainU(), []api.WireFault{{Kind: api.CrossLetters, A: 0, B: 1}}, []int{4}}, {trainU(), []api.WireFault{{Kind: api.DeadNumber, A: 0}}, []int{-1}}, {trainU(), nil, []int{0}}, {trainU(), []api.WireFault{{Kind: api.DeadNumber, A: 1}}, []int{0}},
		{train(0), []api.WireFault{{Kind: api.DeadNumber, A: 0}}, nil}, {train(1, 0), nil, nil},
		{several, nil, []int{6, 0, 11}}, {several, []api.WireFault{{Kind: api.DeadLetter, A: 0}}, []int{6, -1, 11}}, {several, []api.WireFault{{Kind: api.DeadLetter, A: 1}, {Kind: api.DeadNumber, A: 3}}, []int{-1, 0, -1}},
		{several, []api.WireFault{{Kind: api.CrossNumbers, A: 0, B: 3}}, []int{6, 3, 8}}, {several, []api.WireFault{{Kind: api.CrossLetters, A: 1, B: 2}, {Kind: api.CrossNumbers, A: 0, B: 2}}, []int{8, 2, 7}},
		{several, []api.WireFault{{Kind: api.DeadLetter, A: 2}, {Kind: api.CrossLetters, A: 0, B: 2}, {Kind: api.CrossNumbers, A: 0, B: 1}, {Kind: api.CrossNumbers, A: 2, B: 3}}, []int{7, 9, -1}},
	} {
		if plays, e := pulses.Plays(x.p, x.faults); !slices.Equal(plays, x.want) || e != api.OK {
			t.Errorf("%d: Plays of %v, %v = %v, %d, not %v", i, x.p, x.faults, plays, e, x.want)
		}
	}
}

// numberOr returns a number, or -1 with ErrNone.
func numberOr(t *testing.T, n int, e api.Errno) int {
	t.Helper()
	switch e {
	case api.OK:
		return n
	case api.ErrNone:
		return -1
	}
	t.Fatalf("error %d", e)
	return 0
}

// say asks for all of it that is said of a train which has a reading.
func say(t *testing.T, p api.Pulse) seen {
	t.Helper()
	var s seen
	var e [5]api.Errno
	s.many, e[0] = pulses.Many(p)
	s.lists, e[1] = pulses.Lists(p)
	s.real, e[2] = pulses.Real(p)
	s.sparks, e[3] = pulses.Sparks(p)
	s.list, e[4] = pulses.Read(p)
	if s.lists > 1 && e[4] == api.ErrMany {
		e[4] = api.OK
	}
	if e != [5]api.Errno{} {
		t.Errorf("%v has a reading, but errors: %v", p, e)
	}
	for selection := range p.Letters * p.Numbers {
		asked, e := pulses.Asked(p, selection)
		if e != api.OK {
			t.Errorf("Asked of %v, %d: %d", p, selection, e)
		}
		s.asked = append(s.asked, asked)
	}
	return s
}

// same returns whether all that is said is the same.
func same(a, b seen) bool {
	return a.many == b.many && a.lists == b.lists && (a.lists > 1 || slices.Equal(a.list, b.list)) &&
		slices.Equal(a.asked, b.asked) && slices.Equal(a.real, b.real) && slices.Equal(a.sparks, b.sparks)
}

// P13.3 to P13.7: all functions say what is heard in all readings, each set of pulses gone through.
func TestAllReadings(t *testing.T) {
	one, several, none, tooMany, unsure := 0, 0, 0, 0, 0
	eachDrawn(150, func(p api.Pulse, _ *rand.Rand) {
		fewest := api.MaxSparks + 1
		for _, h := range hear(p, api.MaxSparks) {
			fewest = min(fewest, len(h.sparks))
		}
		if fewest > api.MaxSparks {
			tooMany++
			fewest = -1
		}
		n, e := pulses.Fewest(p)
		if numberOr(t, n, e) != fewest {
			t.Errorf("Fewest of %v = %d, %d, not %d", p, n, e, fewest)
		}
		all := hear(p, p.Sparks)
		if len(all) == 0 {
			none++
			checkNone(t, p, nil, ofTrain(p), api.ErrNone)
			return
		}
		want, got := look(p, all), say(t, p)
		if !same(got, want) {
			t.Errorf("of %v: %v, not %v", p, got, want)
		}
		if want.lists > 1 {
			several++
		} else {
			one++
		}
		if len(want.sparks) > 0 && len(want.real) > 0 && len(want.sparks)+len(want.real) < len(p.Times) {
			unsure++
		}
	})
	if one < 100 || several < 100 || none < 60 || tooMany < 20 || unsure < 20 {
		t.Errorf("only %d have one list, %d several, %d no reading, %d too many sparks, and %d pulses of which it is sure that they are sparks, that they are none, and neither", one, several, none, tooMany, unsure)
	}
}
