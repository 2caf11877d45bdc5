package wires_test

import (
	"math/rand/v2"
	"slices"
	"testing"

	"shellac/api"
	"shellac/tray"
	"shellac/wires"
)

// This file tests the promise about this layer and a lower one together.

// drawTray draws a tray with no more records than there can be letters, and presses of its sides.
func drawTray(draw *rand.Rand) api.Tray {
	x := api.Tray{Way: 1 - 2*draw.IntN(2), Step: draw.IntN(api.MaxTrayStep + 1)}
	for range 1 + draw.IntN(api.MaxButtons) {
		x.Records = append(x.Records, api.TrayRecord{Front: 1 + draw.IntN(200), Back: 1 + draw.IntN(200)})
	}
	x.At = draw.IntN(len(x.Records))
	for range draw.IntN(api.MaxPresses + 1) {
		x.Presses = append(x.Presses, api.TrayPress{Side: draw.IntN(2 * len(x.Records)), Time: draw.IntN(2000)})
	}
	return x
}

// through returns a tray whose presses go through some faults.
func through(t *testing.T, w api.Wire, x api.Tray, l []api.WireFault) api.Tray {
	t.Helper()
	x.Presses = slices.Clone(x.Presses)
	for i, p := range x.Presses {
		side, e := wires.Plays(w, l, p.Side/2, p.Side%2)
		if e != api.OK {
			t.Fatalf("Plays of %v, %v, %d: %d", w, l, p.Side, e)
		}
		x.Presses[i].Side = side
	}
	return x
}

// playsOf returns what a tray plays, and when.
func playsOf(t *testing.T, x api.Tray) []api.TrayPlay {
	t.Helper()
	l, e := tray.Plays(x)
	if e != api.OK {
		t.Fatalf("Plays of %v: %d", x, e)
	}
	return l
}

// P0.7 (the crossed buttons): if the letters are the records of a tray and the numbers their sides, a selection is a side; if each press goes through the same crosses twice, the tray plays the same.
func TestCrossedTray(t *testing.T) {
	draw := rand.New(rand.NewPCG(11, 7))
	changed := 0
	for range 300 {
		x := drawTray(draw)
		w := box(len(x.Records), 2, 0)
		if same := through(t, w, x, nil); !slices.Equal(same.Presses, x.Presses) {
			t.Errorf("the presses %v of %d records select %v", x.Presses, len(x.Records), same.Presses)
		}
		crosses := slices.DeleteFunc(drawWiring(draw, w, 8).faults(), func(f api.WireFault) bool {
			return f.Kind == api.DeadLetter || f.Kind == api.DeadNumber
		})
		once := through(t, w, x, crosses)
		twice := through(t, w, once, crosses)
		if a, b := playsOf(t, x), playsOf(t, twice); !slices.Equal(a, b) {
			t.Errorf("%v plays %v; twice through %v: %v", x, a, crosses, b)
		}
		if !slices.Equal(once.Presses, x.Presses) {
			changed++
		}
	}
	if changed < 100 {
		t.Errorf("only %d trays are pressed otherwise through the crosses", changed)
	}
}
