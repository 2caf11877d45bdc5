package pulses_test

import (
	"math"
	"slices"
	"testing"

	"shellac/api"
	"shellac/pulses"
)

// with returns a train with something changed.
func with(p api.Pulse, change func(p *api.Pulse)) api.Pulse {
	p = copied(p)
	change(&p)
	return p
}

// outside are numbers that are not from low to high.
func outside(low, high int) []int {
	return []int{low - 1, high + 1, math.MinInt, math.MaxInt, -high - 2}
}

// atLast are so many pulses, the last one at the greatest time.
func atLast(pulses, distance int) []int {
	var times []int
	for i := range pulses {
		times = append(times, api.MaxTime-(pulses-1-i)*distance)
	}
	return times
}

// readable are valid trains that have readings.
func readable() []api.Pulse {
	return []api.Pulse{
		trainT(), trainU(), sparked(trainT(), 0), sparked(trainU(), api.MaxSparks), train(0), train(api.MaxSparks, []int{}...), train(1, 0), train(2, 0, 1), train(3, 0, 1, 2),
		widest(), closest(), timed(widest(), 0, 198), timed(closest(), 0, 2), timed(closest(), 5, 7, 10, 12), timed(widest(), 0, api.MaxTime),
		with(train(0, 0, 10, 32), func(p *api.Pulse) { p.Slack = 9; p.Gap = 20 }),
		with(train(0, 0, 13, 14), func(p *api.Pulse) { p.Slack, p.Gap, p.Pause, p.Sparks = 2, 13, 14, 1 }),
		timed(closest(), slices.Concat(after(slices.Repeat([]int{3, 2}, 12)...))...),
	}
}

// unreadable are valid trains that have none.
func unreadable() []api.Pulse {
	return []api.Pulse{
		train(0, 0), train(1, 0, 1), train(2, 0, 1, 2), train(3, 0, 1, 2, 3), sparked(trainU(), 0), train(0, 0, 10), train(0, 0, 100),
		timed(widest(), atLast(api.MaxPulses, 1)...), timed(widest(), after(slices.Repeat([]int{1}, api.MaxPulses)...)...), timed(closest(), 0), timed(closest(), atLast(api.MaxPulses, 1)...),
	}
}

func invalidTrains() []api.Pulse {
	l := []api.Pulse{
		{}, train(0, 0, 0), train(0, 5, 4), train(0, 0, 10, 40, 50, 50), train(0, 0, 10, 40, 30), train(1, 10, 0), train(0, -1), train(0, -1, 30), train(0, 0, api.MaxTime+1), train(0, math.MinInt, math.MaxInt),
		timed(widest(), after(slices.Repeat([]int{1}, api.MaxPulses+1)...)...), timed(closest(), make([]int, 1000)...),
		timed(widest(), after(slices.Repeat([]int{3, 2}, 13)...)...),
	}
	change := func(n int, to func(p *api.Pulse, n int)) {
		for _, p := range []api.Pulse{trainT(), trainU(), train(0)} {
			l = append(l, with(p, func(p *api.Pulse) { to(p, n) }))
		}
	}
	for _, n := range outside(1, api.MaxButtons) {
		change(n, func(p *api.Pulse, n int) { p.Letters = n })
		change(n, func(p *api.Pulse, n int) { p.Numbers = n })
	}
	for _, n := range outside(1, api.MaxPitch) {
		change(n, func(p *api.Pulse, n int) { p.Pitch = n })
		change(n, func(p *api.Pulse, n int) { p.Pitch, p.Slack, p.Gap = n, 0, api.MaxPause-1; p.Pause = api.MaxPause })
	}
	for _, n := range outside(0, 9) {
		change(n, func(p *api.Pulse, n int) { p.Slack = n })
	}
	for _, n := range []int{12, 11, 0, -30, 100, 101, math.MinInt, math.MaxInt} {
		change(n, func(p *api.Pulse, n int) { p.Gap = n })
	}
	for _, n := range []int{30, 29, 12, 0, -100, api.MaxPause + 1, math.MinInt, math.MaxInt} {
		change(n, func(p *api.Pulse, n int) { p.Pause = n })
	}
	for _, n := range outside(0, api.MaxSparks) {
		change(n, func(p *api.Pulse, n int) { p.Sparks = n })
	}
	for i := range trainT().Times {
		for _, n := range outside(0, api.MaxTime) {
			l = append(l, with(trainT(), func(p *api.Pulse) { p.Times[i] = n }))
		}
	}
	return l
}

// badLists are lists that are not ones of selections of the chapter's box, or that have too many of them.
func badLists() [][]int {
	l := [][]int{make([]int, api.MaxPulses+1), make([]int, 1000), {0, 12}, {12, 0}, {0, -1, 0}, append(make([]int, api.MaxPulses-1), 12)}
	for _, n := range outside(0, 11) {
		l = append(l, []int{n}, []int{1, n})
	}
	return l
}

// goodSets are sets of faults of the chapter's box.
func goodSets() [][]api.WireFault {
	return [][]api.WireFault{
		nil, {}, {{Kind: api.DeadLetter, A: 2}}, {{Kind: api.DeadNumber, A: 3}}, {{Kind: api.CrossLetters, A: 0, B: 2}}, {{Kind: api.CrossNumbers, A: 2, B: 3}},
		// more than MaxFaults
		{{Kind: api.DeadLetter}, {Kind: api.DeadLetter, A: 1}, {Kind: api.DeadNumber}, {Kind: api.CrossLetters, A: 0, B: 1}, {Kind: api.CrossNumbers, A: 0, B: 1}, {Kind: api.CrossNumbers, A: 2, B: 3}},
	}
}

// badSets are lists of faults that are no sets of it.
func badSets() [][]api.WireFault {
	return [][]api.WireFault{
		{{}}, {{Kind: 5}}, {{Kind: -1}}, {{Kind: math.MaxInt, A: math.MinInt}}, {{Kind: api.DeadLetter, A: 3}}, {{Kind: api.DeadNumber, A: 4}}, {{Kind: api.DeadLetter, A: -1}}, {{Kind: api.DeadLetter, B: 1}},
		{{Kind: api.CrossLetters, A: 0, B: 3}}, {{Kind: api.CrossLetters, A: 1, B: 0}}, {{Kind: api.CrossNumbers, A: 1, B: 1}}, {{Kind: api.CrossNumbers, A: 3, B: 4}},
		{{Kind: api.DeadNumber}, {Kind: api.DeadLetter}}, {{Kind: api.DeadLetter}, {Kind: api.DeadLetter}}, {{Kind: api.CrossNumbers, A: 0, B: 1}, {Kind: api.CrossNumbers, A: 1, B: 2}},
	}
}

// answer is the error of a function, and whether all its other results are zero values.
type answer struct {
	e    api.Errno
	zero bool
}

// ofTrain asks the functions that need a reading, with other arguments that are good.
func ofTrain(p api.Pulse) map[string]answer {
	many, e := pulses.Many(p)
	lists, f := pulses.Lists(p)
	read, g := pulses.Read(p)
	real, h := pulses.Real(p)
	sparks, i := pulses.Sparks(p)
	asked, j := pulses.Asked(p, 0)
	plays, k := pulses.Plays(p, nil)
	return map[string]answer{
		"Many": {e, many == 0}, "Lists": {f, lists == 0}, "Read": {g, len(read) == 0}, "Real": {h, len(real) == 0},
		"Sparks": {i, len(sparks) == 0}, "Asked": {j, asked == api.Span{}}, "Plays": {k, len(plays) == 0},
	}
}

// ofWrite and the others ask one function.
func ofWrite(p api.Pulse, list []int, from int) map[string]answer {
	times, e := pulses.Write(p, list, from)
	return map[string]answer{"Write": {e, len(times) == 0}}
}

func ofFewest(p api.Pulse) map[string]answer {
	n, e := pulses.Fewest(p)
	return map[string]answer{"Fewest": {e, n == 0}}
}

func ofAsked(p api.Pulse, selection int) map[string]answer {
	asked, e := pulses.Asked(p, selection)
	return map[string]answer{"Asked": {e, asked == api.Span{}}}
}

func ofPlays(p api.Pulse, faults []api.WireFault) map[string]answer {
	plays, e := pulses.Plays(p, faults)
	return map[string]answer{"Plays": {e, len(plays) == 0}}
}

// checkNone reports an answer of some functions that has not the error, or that says something nevertheless.
func checkNone(t *testing.T, p api.Pulse, asked any, all map[string]answer, want api.Errno) {
	t.Helper()
	for name, a := range all {
		if a != (answer{want, true}) {
			t.Errorf("%s of %v, %v: %d, zero: %t; not %d", name, p, asked, a.e, a.zero, want)
		}
	}
}

// checkOK reports an answer of some functions that has an error.
func checkOK(t *testing.T, p api.Pulse, asked any, all map[string]answer) {
	t.Helper()
	for name, a := range all {
		if a.e != api.OK {
			t.Errorf("%s of %v, %v: %d", name, p, asked, a.e)
		}
	}
}

// P13.1: which trains are valid; those without a reading are.
func TestCheck(t *testing.T) {
	for i, p := range slices.Concat(readable(), unreadable()) {
		if e := pulses.Check(p); e != api.OK {
			t.Errorf("valid train %d, %v: Check = %d", i, p, e)
		}
	}
	for i, p := range invalidTrains() {
		if e := pulses.Check(p); e != api.ErrPulse {
			t.Errorf("invalid train %d, %v: Check = %d", i, p, e)
		}
	}
	for _, pitch := range []int{1, 2, 50, api.MaxPitch} {
		for _, slack := range []int{0, 1, pitch / 2, pitch - 2, pitch - 1, pitch} {
			for _, gap := range []int{pitch - slack, pitch, pitch + slack, pitch + slack + 1, 500, api.MaxPause - 1, api.MaxPause} {
				for _, pause := range []int{gap - 1, gap, gap + 1, api.MaxPause - 1, api.MaxPause, api.MaxPause + 1} {
					want := api.ErrPulse
					if 0 <= slack && slack < pitch && pitch+slack < gap && gap < pause && pause < 1000 {
						want = api.OK
					}
					if e := pulses.Check(api.Pulse{Letters: 1, Numbers: 1, Pitch: pitch, Slack: slack, Gap: gap, Pause: pause}); e != want {
						t.Errorf("Check with %d, %d, %d, %d = %d, not %d", pitch, slack, gap, pause, e, want)
					}
				}
			}
		}
	}
}

// P13.1, R1, R2: an invalid train comes before everything else that is not valid, and before each other error; nothing else is said of it.
func TestInvalidTrainComesFirst(t *testing.T) {
	for _, p := range invalidTrains() {
		checkNone(t, p, nil, ofTrain(p), api.ErrPulse)
		checkNone(t, p, nil, ofFewest(p), api.ErrPulse)
		for _, list := range append(badLists(), nil, []int{1, 4}, make([]int, api.MaxPulses)) {
			for _, from := range []int{0, -1, api.MaxTime, api.MaxTime + 1} {
				checkNone(t, p, list, ofWrite(p, list, from), api.ErrPulse)
			}
		}
		for _, n := range append(outside(0, 11), 11) {
			checkNone(t, p, n, ofAsked(p, n), api.ErrPulse)
		}
		for _, l := range slices.Concat(goodSets(), badSets()) {
			checkNone(t, p, l, ofPlays(p, l), api.ErrPulse)
		}
	}
}

// P13.2, R1, R7: lists and times that are not valid, also if there are too many pulses, or too late ones; the limits themselves are.
func TestBadLists(t *testing.T) {
	for _, p := range []api.Pulse{trainT(), trainU(), train(0), train(0, 0)} {
		for _, list := range badLists() {
			for _, from := range []int{0, 7, api.MaxTime} {
				checkNone(t, p, list, ofWrite(p, list, from), api.ErrArg)
			}
		}
		for _, from := range outside(0, api.MaxTime) {
			for _, list := range [][]int{nil, {0}, {11}, make([]int, 13), make([]int, api.MaxPulses)} {
				checkNone(t, p, list, ofWrite(p, list, from), api.ErrArg)
			}
		}
		for _, from := range []int{0, api.MaxTime} {
			checkOK(t, p, from, ofWrite(p, nil, from))
		}
		checkOK(t, p, nil, ofWrite(p, []int{0, 11}, 0))
	}
}

// P13.2, R2: ErrLong if there are too many pulses, or one would come too late.
func TestErrLong(t *testing.T) {
	for _, x := range []struct {
		p    api.Pulse
		list []int
		from int
	}{
		{train(0), make([]int, 13), 0}, {train(0), make([]int, api.MaxPulses), 0}, {train(0), []int{11, 11, 11, 3}, 0}, {timed(widest()), []int{24, 24, 3}, 0},
		{train(0), []int{0}, api.MaxTime}, {train(0), []int{0}, api.MaxTime - 29}, {train(0), []int{11}, api.MaxTime - 79}, {train(0), []int{1, 4}, api.MaxTime - 179}, {train(0), make([]int, 12), api.MaxTime - 12*30 - 11*100 + 1},
	} {
		checkNone(t, x.p, x.list, ofWrite(x.p, x.list, x.from), api.ErrLong)
	}
	for _, x := range []struct {
		p    api.Pulse
		list []int
		from int
	}{
		{train(0), make([]int, 12), 0}, {train(0), []int{11, 11, 11, 1}, 0}, {widest(), []int{24, 24, 2}, 0}, {widest(), []int{24, 24, 10}, 0}, {train(0), []int{0}, api.MaxTime - 30}, {train(0), []int{11}, api.MaxTime - 80},
		{train(0), []int{1, 4}, api.MaxTime - 180}, {train(0), make([]int, 12), api.MaxTime - 12*30 - 11*100}, {widest(), make([]int, 12), api.MaxTime - 12*198 - 11*999},
	} {
		checkOK(t, x.p, x.list, ofWrite(x.p, x.list, x.from))
	}
}

// P13.6, R1, R2: selections that are not ones of the box, also if there is no reading.
func TestBadSelections(t *testing.T) {
	for _, p := range slices.Concat(readable(), unreadable()) {
		last := p.Letters*p.Numbers - 1
		for _, n := range outside(0, last) {
			checkNone(t, p, n, ofAsked(p, n), api.ErrArg)
		}
	}
	for _, p := range readable() {
		checkOK(t, p, "the last one", ofAsked(p, p.Letters*p.Numbers-1))
	}
}

// P13.8, R1, R2, R8: faults that are no set of the box, also if there is no reading, or if there are different lists.
func TestBadSets(t *testing.T) {
	for _, p := range []api.Pulse{trainT(), trainU(), train(0), train(0, 0), train(2, 0, 1, 2)} {
		for _, l := range badSets() {
			checkNone(t, p, l, ofPlays(p, l), api.ErrArg)
		}
	}
	for _, l := range goodSets() {
		checkOK(t, trainU(), l, ofPlays(trainU(), l))
		checkNone(t, trainT(), l, ofPlays(trainT(), l), api.ErrMany)
		checkNone(t, train(0, 0), l, ofPlays(train(0, 0), l), api.ErrNone)
	}
}

// P13.4 to P13.8, R2: ErrNone if there is no reading.
func TestNoReading(t *testing.T) {
	for _, p := range unreadable() {
		checkNone(t, p, nil, ofTrain(p), api.ErrNone)
		checkOK(t, p, nil, ofWrite(p, []int{0}, 0))
	}
	for _, p := range readable() {
		for name, a := range ofTrain(p) {
			if a.e != api.OK && (a.e != api.ErrMany || name != "Read" && name != "Plays") {
				t.Errorf("%s of %v: %d", name, p, a.e)
			}
		}
	}
}

// P13.3, R2: ErrNone of Fewest if there are more sparks than there can be at the most; with fewer ones Sparks does not matter.
func TestNoFewest(t *testing.T) {
	for most := range api.MaxSparks + 1 {
		for _, times := range [][]int{{0, 1, 2, 3}, {0, 3, 6, 9, 12}, {0, 100, 200, 300}, atLast(api.MaxPulses, 1)} {
			checkNone(t, train(most, times...), nil, ofFewest(train(most, times...)), api.ErrNone)
		}
		for _, times := range [][]int{{0, 1, 2}, {0}, {}, {0, 100, 200}} {
			checkOK(t, train(most, times...), nil, ofFewest(train(most, times...)))
		}
	}
}

// P13.5, P13.8, R2: ErrMany if readings have different lists, though all other functions answer.
func TestDifferentLists(t *testing.T) {
	for _, p := range []api.Pulse{trainT(), sparked(trainT(), 2), sparked(trainT(), 3), train(2, 0, 30), train(3, 0, 30, 130, 160), timed(widest(), 0, 99, 297, 396)} {
		for name, a := range ofTrain(p) {
			if name == "Read" || name == "Plays" {
				checkNone(t, p, nil, map[string]answer{name: a}, api.ErrMany)
			} else {
				checkOK(t, p, nil, map[string]answer{name: a})
			}
		}
	}
}
