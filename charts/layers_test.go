package charts_test

import (
	"math/rand/v2"
	"slices"
	"testing"

	"shellac/api"
	"shellac/charts"
	"shellac/tray"
)

// This file tests the promise about this layer and a lower one together.

// drawTray draws a tray with presses of many of its sides.
func drawTray(draw *rand.Rand) api.Tray {
	x := api.Tray{Way: 1 - 2*draw.IntN(2), Step: draw.IntN(api.MaxTrayStep + 1)}
	for range 1 + draw.IntN(api.MaxTray) {
		x.Records = append(x.Records, api.TrayRecord{Front: 1 + draw.IntN(200), Back: 1 + draw.IntN(200)})
	}
	x.At = draw.IntN(len(x.Records))
	for range draw.IntN(api.MaxPresses + 1) {
		x.Presses = append(x.Presses, api.TrayPress{Side: draw.IntN(2 * len(x.Records)), Time: draw.IntN(2000)})
	}
	return x
}

// playsOf returns how often a tray plays each of its records.
func playsOf(t *testing.T, x api.Tray) []int {
	t.Helper()
	all, e := tray.Plays(x)
	if e != api.OK {
		t.Fatalf("Plays of %v: %d", x, e)
	}
	plays := make([]int, len(x.Records))
	for _, p := range all {
		plays[p.Side/2]++
	}
	return plays
}

// meterOf returns a meter of a week that tells just how often a record was played: by the week's span, or by readings.
func meterOf(draw *rand.Rand, plays int) api.Meter {
	if draw.IntN(2) == 0 {
		return newMeter(span(plays, plays))
	}
	start := draw.IntN(100)
	return read(newMeter(span(max(0, plays-draw.IntN(40)), plays+draw.IntN(40))), 0, start, 1, (start+plays)%100)
}

// P0.12 (the hits of a tray): if the titles are the records of a tray, each played in a week as often as there, there is just one order, the one by these plays, and Rank, Top, May and Needs are what it says.
func TestHitsOfTray(t *testing.T) {
	draw := rand.New(rand.NewPCG(6, 12))
	equal := 0
	for range 100 {
		plays := playsOf(t, drawTray(draw))
		c := newChart(0, 1)
		for _, n := range plays {
			c.Meters, c.Extra = append(c.Meters, meterOf(draw, n)), append(c.Extra, 0)
		}
		order := byPlays(plays)
		checkHits(t, c, plays, order)
		for i, title := range order[1:] {
			if plays[title] == plays[order[i]] {
				equal++
			}
		}
	}
	if equal < 50 {
		t.Errorf("only %d titles were played as often as another one", equal)
	}
}

// checkHits reports all that is said of a chart and is not so if its only order is by some plays.
func checkHits(t *testing.T, c api.Chart, plays, order []int) {
	t.Helper()
	s, truths := say(t, c)
	if !truths || s.orders != 1 || !slices.Equal(s.order, order) {
		t.Errorf("of %v, played %v: Orders = %d, Order = %v", c, plays, s.orders, s.order)
		return
	}
	for i, title := range order {
		first := slices.Sorted(slices.Values(order[:i+1]))
		if s.ranks[title] != span(i+1, i+1) || s.cuts[i] != span(plays[title], plays[title]) {
			t.Errorf("of %v, played %v: Rank of %d = %v; Cut of %d = %v", c, plays, title, s.ranks[title], i+1, s.cuts[i])
		}
		if !slices.Equal(s.top[i], first) || !slices.Equal(s.may[i], first) {
			t.Errorf("of %v, played %v: Top of %d = %v, May = %v", c, plays, i+1, s.top[i], s.may[i])
		}
		for before, last := range order {
			want := 0
			if before < i {
				// it has to come before the last of so many first ones
				want = plays[last] - plays[title]
				if last < title {
					want++
				}
			}
			if n, e := charts.Needs(c, title, before+1); n != want || e != api.OK {
				t.Errorf("of %v, played %v: Needs of %d, %d = %d, %d", c, plays, title, before+1, n, e)
			}
		}
	}
}
