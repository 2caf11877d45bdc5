package swaps_test

import (
	"math/rand/v2"
	"slices"
	"testing"

	"shellac/api"
	"shellac/charts"
	"shellac/swaps"
)

// This file tests the promise about this layer and a lower one together.

// drawMeter draws a meter of a week whose numbers lie close together, or far apart if it went round.
func drawMeter(draw *rand.Rand) api.Meter {
	low := draw.IntN(api.MaxTurns + 1)
	high := min(api.MaxTurns, low+draw.IntN(4))
	if draw.IntN(2) == 0 {
		return api.Meter{Weeks: []api.Span{{Low: low, High: high}}}
	}
	start := draw.IntN(100)
	return api.Meter{
		Weeks:    []api.Span{{Low: 0, High: api.MaxTurns}},
		Readings: []api.MeterReading{{After: 0, Shown: start}, {After: 1, Shown: (start + low) % 100}},
	}
}

// drawChart draws a chart no title of which was played more often than it can earn.
func drawChart(draw *rand.Rand) api.Chart {
	c := api.Chart{From: 0, To: 1}
	for range draw.IntN(api.MaxChart + 1) {
		c.Meters = append(c.Meters, drawMeter(draw))
		c.Extra = append(c.Extra, draw.IntN(4)/2*draw.IntN(api.MaxEarn-api.MaxTurns+1))
	}
	return c
}

// boxOf returns a visit to a box with so many titles of a chart, all of which can be changed, and what the titles earn is at one end of their numbers.
func boxOf(t *testing.T, c api.Chart, draw *rand.Rand, slots int, end func([]int) int) api.Swap {
	t.Helper()
	var earn []int
	for title := range c.Meters {
		numbers, e := charts.Numbers(c, title)
		if e != api.OK {
			t.Fatalf("Numbers of %v, %d: %d", c, title, e)
		}
		earn = append(earn, end(numbers))
	}
	box := slices.Sorted(slices.Values(draw.Perm(len(earn))[:slots]))
	return oneBox(slots+draw.IntN(api.MaxSlots-slots+1), box, earn...)
}

// P0.4 (the box with the hits): with a copy of each title of a chart in the van, a box all of whose titles can be changed earns what Cut says of so many first ranks together: at the least if each title earns its least number, at the most if it earns its greatest.
func TestBoxWithTheHits(t *testing.T) {
	draw := rand.New(rand.NewPCG(7, 4))
	differ := 0
	for range 100 {
		c := drawChart(draw)
		for slots := range min(api.MaxSlots, len(c.Meters)) + 1 {
			var least, most int
			for rank := range slots {
				cut, e := charts.Cut(c, rank+1)
				if e != api.OK {
					t.Fatalf("Cut of %v, %d: %d", c, rank+1, e)
				}
				least += cut.Low
				most += cut.High
			}
			if least < most {
				differ++
			}
			low, high := boxOf(t, c, draw, slots, slices.Min), boxOf(t, c, draw, slots, slices.Max)
			if n, e := swaps.Best(low); n != least || e != api.OK {
				t.Errorf("Best of %v = %d, %d; the first ranks of %v have at the least %d", low, n, e, c, least)
			}
			if n, e := swaps.Best(high); n != most || e != api.OK {
				t.Errorf("Best of %v = %d, %d; the first ranks of %v have at the most %d", high, n, e, c, most)
			}
		}
	}
	if differ < 120 {
		t.Errorf("only %d charts are not known", differ)
	}
}
