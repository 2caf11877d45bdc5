package meters_test

import (
	"math/rand/v2"
	"slices"
	"testing"

	"shellac/api"
	"shellac/meters"
	"shellac/tray"
)

// This file tests the promise about this layer and a lower one together.

// drawTray draws a tray with presses of many of its sides.
func drawTray(draw *rand.Rand) api.Tray {
	x := api.Tray{Way: 1 - 2*draw.IntN(2), Step: draw.IntN(api.MaxTrayStep + 1)}
	for range 1 + draw.IntN(3) {
		x.Records = append(x.Records, api.TrayRecord{Front: 1 + draw.IntN(200), Back: 1 + draw.IntN(200)})
	}
	x.At = draw.IntN(len(x.Records))
	for range draw.IntN(api.MaxPresses + 1) {
		x.Presses = append(x.Presses, api.TrayPress{Side: draw.IntN(2 * len(x.Records)), Time: draw.IntN(2000)})
	}
	return x
}

// playsOf returns how often a tray plays the record at a place.
func playsOf(t *testing.T, x api.Tray, place int) int {
	t.Helper()
	plays, e := tray.Plays(x)
	if e != api.OK {
		t.Fatalf("Plays of %v: %d", x, e)
	}
	count := 0
	for _, p := range plays {
		if p.Side/2 == place {
			count++
		}
	}
	return count
}

// P0.11 (the metered record): read rightly at the beginning and after each week, the meter says just the plays of a tray, though each week could have had up to 4 plays fewer or more.
func TestMeteredRecord(t *testing.T) {
	draw := rand.New(rand.NewPCG(4, 11))
	played := 0
	for range 150 {
		shown := draw.IntN(100)
		m := read(newMeter(), 0, shown)
		var plays []int
		for week := range 1 + draw.IntN(api.MaxMeterWeeks) {
			n := playsOf(t, drawTray(draw), 0)
			played += n
			plays = append(plays, n)
			m.Weeks = append(m.Weeks, span(max(0, n-draw.IntN(5)), n+draw.IntN(5)))
			shown = (shown + n) % 100
			m = read(m, week+1, shown)
		}
		checkMetered(t, m, truth{m.Readings[0].Shown, plays})
	}
	if played < 100 {
		t.Errorf("only %d plays", played)
	}
}

// checkMetered reports all that is said of a meter and is not in its only truth, or is not all of it.
func checkMetered(t *testing.T, m api.Meter, x truth) {
	t.Helper()
	for week, n := range x.plays {
		if s, e := meters.Week(m, week); s != span(n, n) || e != api.OK {
			t.Errorf("Week of %v, %d = %v, %d; played %v", m, week, s, e, x.plays)
		}
	}
	for from := range len(x.plays) + 1 {
		if l, e := meters.Shows(m, from); !slices.Equal(l, []int{x.shows(from)}) || e != api.OK {
			t.Errorf("Shows of %v, %d = %v, %d; played %v", m, from, l, e, x.plays)
		}
		for to := from; to <= len(x.plays); to++ {
			if l, e := meters.Sums(m, from, to); !slices.Equal(l, []int{x.sum(from, to)}) || e != api.OK {
				t.Errorf("Sums of %v, %d, %d = %v, %d; played %v", m, from, to, l, e, x.plays)
			}
		}
	}
}
