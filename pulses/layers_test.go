package pulses_test

import (
	"math/rand/v2"
	"slices"
	"testing"

	"shellac/api"
	"shellac/pulses"
	"shellac/tray"
	"shellac/wires"
)

// This file tests the promises about this layer and lower ones together.

// drawFaults draws a set of faults of a box.
func drawFaults(draw *rand.Rand, w api.Wire) []api.WireFault {
	var all []api.WireFault
	for range draw.IntN(api.MaxFaults + 1) {
		f := api.WireFault{Kind: 1 + draw.IntN(4), A: draw.IntN(api.MaxButtons)}
		if f.Kind == api.CrossLetters || f.Kind == api.CrossNumbers {
			f.B = f.A + 1 + draw.IntN(2)
		}
		// a fault that makes no set is left out
		if _, e := wires.Explains(w, append(slices.Clone(all), f)); e == api.OK {
			all = append(all, f)
		}
	}
	return all
}

// drawPresses draws what is pressed on a box with some faults, and what plays.
func drawPresses(t *testing.T, draw *rand.Rand, w api.Wire, faults []api.WireFault) []api.WirePress {
	var all []api.WirePress
	for range draw.IntN(api.MaxTried + 1) {
		p := api.WirePress{Letter: draw.IntN(w.Letters), Number: draw.IntN(w.Numbers)}
		got, e := wires.Plays(w, faults, p.Letter, p.Number)
		if e != api.OK {
			t.Fatalf("Plays of %v, %v: %d", w, faults, e)
		}
		p.Got = got
		all = append(all, p)
	}
	return all
}

// P0.8 (what is dialed): if selections are sent as pulses to a box whose buttons have the faults of a truth, what plays for each of them is what wires.Plays says, and one of wires.Shows.
func TestDialed(t *testing.T) {
	silent, other := 0, 0
	eachDrawn(100, func(p api.Pulse, draw *rand.Rand) {
		w := api.Wire{Letters: p.Letters, Numbers: p.Numbers, Faults: api.MaxFaults}
		truth := drawFaults(draw, w)
		w.Presses = drawPresses(t, draw, w, truth)
		list := drawList(draw, p, api.MaxPulses)
		times, e := pulses.Write(p, list, draw.IntN(1000))
		if e != api.OK {
			t.Fatalf("Write of %v, %v: %d", p, list, e)
		}
		plays, e := pulses.Plays(sparked(timed(p, times...), 0), truth)
		if e != api.OK || len(plays) != len(list) {
			t.Fatalf("Plays of %v, %v = %v, %d", list, truth, plays, e)
		}
		for i, selection := range list {
			letter, number := selection/p.Numbers, selection%p.Numbers
			want, e := wires.Plays(w, truth, letter, number)
			shows, f := wires.Shows(w, letter, number)
			if plays[i] != want || !slices.Contains(shows, plays[i]) || e != api.OK || f != api.OK {
				t.Errorf("%d plays %d with %v; wires.Plays = %d, %d; wires.Shows = %v, %d", selection, plays[i], truth, want, e, shows, f)
			}
			switch plays[i] {
			case -1:
				silent++
			case selection:
			default:
				other++
			}
		}
	})
	if silent < 50 || other < 50 {
		t.Errorf("only for %d selections nothing plays, and for %d another one", silent, other)
	}
}

// P0.9 (what is sent to the tray): if the letters are the records of a tray and the two numbers their sides, and all selections of a train are pressed at the time 0, each side of its list plays just once, and no other one.
func TestSentToTray(t *testing.T) {
	twice, silent := 0, 0
	eachDrawn(100, func(p api.Pulse, draw *rand.Rand) {
		p.Numbers = 2
		p.Times, _ = pulses.Write(p, drawList(draw, p, api.MaxPulses), draw.IntN(1000))
		list := readOf(t, sparked(p, 0))
		x := api.Tray{At: draw.IntN(p.Letters), Way: 1 - 2*draw.IntN(2), Step: draw.IntN(api.MaxTrayStep + 1)}
		for range p.Letters {
			x.Records = append(x.Records, api.TrayRecord{Front: 1 + draw.IntN(200), Back: 1 + draw.IntN(200)})
		}
		for _, selection := range list {
			x.Presses = append(x.Presses, api.TrayPress{Side: selection})
		}
		plays, e := tray.Plays(x)
		if e != api.OK {
			t.Fatalf("Plays of %v: %d", x, e)
		}
		var sides []int
		for _, play := range plays {
			sides = append(sides, play.Side)
		}
		slices.Sort(sides)
		sent := slices.Compact(slices.Sorted(slices.Values(list)))
		if !slices.Equal(sides, sent) {
			t.Errorf("%v is sent, and %v plays", list, sides)
		}
		if len(sent) < len(list) {
			twice++
		}
		if len(sent) < 2*p.Letters {
			silent++
		}
	})
	if twice < 50 || silent < 50 {
		t.Errorf("only %d lists have a side twice, and %d not all", twice, silent)
	}
}
