package pulses_test

import (
	"math/rand/v2"
	"slices"
	"testing"

	"shellac/api"
	"shellac/pulses"
)

// fewestOf returns the least number of sparks, one more than there can be with ErrNone.
func fewestOf(t *testing.T, p api.Pulse) int {
	t.Helper()
	n, e := pulses.Fewest(p)
	if n = numberOr(t, n, e); n < 0 {
		return api.MaxSparks + 1
	}
	return n
}

// manyOf returns the number of readings, 0 with ErrNone.
func manyOf(t *testing.T, p api.Pulse) int {
	t.Helper()
	n, e := pulses.Many(p)
	return max(numberOr(t, n, e), 0)
}

// readOf returns what is read of a train, without an error.
func readOf(t *testing.T, p api.Pulse) []int {
	t.Helper()
	list, e := pulses.Read(p)
	if e != api.OK {
		t.Errorf("Read of %v: %d", p, e)
	}
	return list
}

// P13.9 (written): what is written is read, if nothing is a spark.
func TestWritten(t *testing.T) {
	long := 0
	eachDrawn(300, func(p api.Pulse, draw *rand.Rand) {
		list, from := drawList(draw, p, api.MaxPulses), draw.IntN(2000)
		p.Times, _ = pulses.Write(p, list, from)
		p.Sparks = 0
		if read := readOf(t, p); !slices.Equal(read, list) {
			t.Errorf("Write of %v from %d: %v; read: %v", list, from, p, read)
		}
		if len(p.Times) > 0 && p.Times[0] != from {
			t.Errorf("Write of %v from %d: %v", list, from, p)
		}
		long += len(list)
	})
	if long < 1500 {
		t.Errorf("only %d selections", long)
	}
}

// P13.9 (written): each selection of each box is read again.
func TestEachSelection(t *testing.T) {
	for letters := range api.MaxButtons {
		for numbers := range api.MaxButtons {
			p := train(0)
			p.Letters, p.Numbers = letters+1, numbers+1
			for selection := range p.Letters * p.Numbers {
				list := []int{selection, p.Letters*p.Numbers - 1 - selection}
				var e api.Errno
				if p.Times, e = pulses.Write(p, list, 3); e != api.OK {
					t.Errorf("Write of %v, %v: %d", p, list, e)
				}
				if read := readOf(t, p); !slices.Equal(read, list) {
					t.Errorf("Read of %v = %v, not %v", p, read, list)
				}
			}
		}
	}
}

// P13.10 (each reading): without its sparks all is clean; it has each selection as often as Asked says, and Real and Sparks have only pulses of which that is so.
func TestEachReading(t *testing.T) {
	checked := 0
	eachDrawn(60, func(p api.Pulse, _ *rand.Rand) {
		all := hear(p, p.Sparks)
		if len(all) == 0 {
			return
		}
		s := say(t, p)
		for _, h := range all {
			if read := readOf(t, sparked(without(p, h.sparks...), 0)); !slices.Equal(read, h.list) {
				t.Errorf("without %v of %v: %v, not %v", h.sparks, p, read, h.list)
			}
			for selection, asked := range s.asked {
				if n := times(h.list, selection); n < asked.Low || asked.High < n {
					t.Errorf("Asked of %v, %d = %v, but %v has the list %v", p, selection, asked, h.sparks, h.list)
				}
			}
			for i := range p.Times {
				isSpark := slices.Contains(h.sparks, i)
				if isSpark && slices.Contains(s.real, i) || !isSpark && slices.Contains(s.sparks, i) {
					t.Errorf("of %v: Real = %v, Sparks = %v, but there is the reading %v", p, s.real, s.sparks, h.sparks)
				}
			}
			checked++
		}
	})
	if checked < 1500 {
		t.Errorf("only %d readings", checked)
	}
}

// P13.11 (moved): if all pulses come later, or earlier, by the same time, nothing changes.
func TestMoved(t *testing.T) {
	moved := 0
	eachDrawn(80, func(p api.Pulse, draw *rand.Rand) {
		other := copied(p)
		by := 0
		if len(p.Times) > 0 {
			by = []int{-p.Times[0], 1, 1 + draw.IntN(5000), api.MaxTime - slices.Max(p.Times)}[draw.IntN(4)]
		}
		for i := range other.Times {
			other.Times[i] += by
		}
		if a, b := fewestOf(t, p), fewestOf(t, other); a != b {
			t.Errorf("Fewest of %v = %d, later by %d: %d", p, a, by, b)
		}
		a, b := manyOf(t, p), manyOf(t, other)
		if a != b {
			t.Errorf("Many of %v = %d, later by %d: %d", p, a, by, b)
			return
		}
		if a > 0 && !same(say(t, p), say(t, other)) {
			t.Errorf("of %v: %v, later by %d: %v", p, say(t, p), by, say(t, other))
		}
		if a > 0 && by != 0 {
			moved++
		}
	})
	if moved < 60 {
		t.Errorf("only %d trains with a reading are moved", moved)
	}
}

// isPart returns whether all of a list are in another one.
func isPart(a, b []int) bool {
	return !slices.ContainsFunc(a, func(n int) bool { return !slices.Contains(b, n) })
}

// P13.12 (more sparks): there are not fewer readings and lists, Asked is not narrower, and no pulse comes to Real and Sparks.
func TestMoreSparks(t *testing.T) {
	wider, less := 0, 0
	eachDrawn(80, func(p api.Pulse, _ *rand.Rand) {
		for most := range api.MaxSparks {
			few, more := sparked(p, most), sparked(p, most+1)
			if manyOf(t, few) == 0 {
				continue
			}
			a, b := say(t, few), say(t, more)
			if a.many > b.many || a.lists > b.lists || !isPart(b.real, a.real) || !isPart(b.sparks, a.sparks) {
				t.Errorf("of %v: %v, with one spark more: %v", few, a, b)
			}
			for selection, asked := range a.asked {
				if asked.Low < b.asked[selection].Low || asked.High > b.asked[selection].High {
					t.Errorf("Asked of %v, %d = %v, with one spark more %v", few, selection, asked, b.asked[selection])
				}
				if asked != b.asked[selection] {
					wider++
				}
			}
			if len(a.real)+len(a.sparks) > len(b.real)+len(b.sparks) {
				less++
			}
		}
	})
	if wider < 100 || less < 50 {
		t.Errorf("only %d times Asked is wider, and %d times less is sure", wider, less)
	}
}

// P13.13 (one more pulse): Fewest is greater by at most 1.
func TestOneMorePulse(t *testing.T) {
	greater := 0
	eachDrawn(300, func(p api.Pulse, draw *rand.Rand) {
		if len(p.Times) == api.MaxPulses {
			return
		}
		other := drawPulse(draw, p)
		a, b := fewestOf(t, p), fewestOf(t, other)
		if b > a+1 {
			t.Errorf("Fewest of %v = %d, of %v = %d", p, a, other, b)
		}
		if b == a+1 {
			greater++
		}
	})
	if greater < 100 {
		t.Errorf("only %d times Fewest is greater", greater)
	}
}

// behind returns a train, and behind it another one's pulses, the first one at least Pause after the last one.
func behind(draw *rand.Rand, p, other api.Pulse) api.Pulse {
	from := 0
	if len(p.Times) > 0 && len(other.Times) > 0 {
		from = slices.Max(p.Times) - other.Times[0] + p.Pause + draw.IntN(2)*draw.IntN(20)
	}
	p = copied(p)
	for _, at := range other.Times {
		p.Times = append(p.Times, from+at)
	}
	return p
}

// P13.14 (two trains): a train behind another one has at most as many sparks as both; without sparks both lists are read, one after the other.
func TestTwoTrains(t *testing.T) {
	both, less := 0, 0
	for _, l := range []limits{few, {3, 3, 10, 12}, {5, 5, 99, 12}} {
		for p, draw := range drawn(200, l) {
			other := p
			for other.Times = drawTrain(draw, l).Times; draw.IntN(3) > 0 && manyOf(t, other) == 0; {
				other.Times, _ = pulses.Write(other, drawList(draw, p, l.pulses), draw.IntN(100))
			}
			all := behind(draw, p, other)
			a, b, together := fewestOf(t, p), fewestOf(t, other), fewestOf(t, all)
			if a <= api.MaxSparks && b <= api.MaxSparks && together > a+b {
				t.Errorf("Fewest of %v = %d, of %v = %d, of %v = %d", p, a, other, b, all, together)
			}
			if together < a+b {
				less++
			}
			if a+b > 0 {
				continue
			}
			lists := slices.Concat(readOf(t, sparked(p, 0)), readOf(t, sparked(other, 0)))
			if read := readOf(t, sparked(all, 0)); !slices.Equal(read, lists) {
				t.Errorf("Read of %v = %v, not %v", all, read, lists)
			}
			both += min(len(p.Times)*len(other.Times), 1)
		}
	}
	if both < 50 || less < 10 {
		t.Errorf("only %d times both are clean, and %d times there are fewer sparks", both, less)
	}
}

// P13.15 (fewest): there is a reading just if Fewest is at most Sparks; with as many as it says each reading has as many.
func TestFewestSparks(t *testing.T) {
	exact := [api.MaxSparks + 1]int{}
	eachDrawn(150, func(p api.Pulse, _ *rand.Rand) {
		fewest := fewestOf(t, p)
		for most := range api.MaxSparks + 1 {
			if many := manyOf(t, sparked(p, most)); (many > 0) != (fewest <= most) {
				t.Errorf("Fewest of %v = %d, but with %d Many = %d", p, fewest, most, many)
			}
		}
		if fewest > api.MaxSparks {
			return
		}
		exact[fewest]++
		all := hear(p, fewest)
		for _, h := range all {
			if len(h.sparks) != fewest {
				t.Errorf("Fewest of %v = %d, but there is the reading %v", p, fewest, h.sparks)
			}
		}
		// each of Sparks is one of as many, and if there is one reading they are just these
		sparks, e := pulses.Sparks(sparked(p, fewest))
		if e != api.OK || len(sparks) > fewest || len(all) == 1 && !slices.Equal(sparks, all[0].sparks) {
			t.Errorf("Sparks of %v with %d = %v, %d; the readings: %v", p, fewest, sparks, e, all)
		}
	})
	if slices.Min(exact[:]) < 20 {
		t.Errorf("so many trains have 0 to %d sparks: %v", api.MaxSparks, exact)
	}
}
