package wear_test

import (
	"math/rand/v2"
	"slices"
	"testing"

	"shellac/api"
	"shellac/coins"
	"shellac/tray"
	"shellac/wear"
)

// This file tests the promises about this layer and lower ones together.

// drawWheel draws a wheel, and a purse for it.
func drawWheel(draw *rand.Rand) (api.Wheel, []int) {
	w := api.Wheel{Round: 20 + draw.IntN(81)}
	for place := 1 + draw.IntN(9); place <= w.Round && len(w.Notches) < api.MaxNotches; place += 5 + draw.IntN(20) {
		w.Notches = append(w.Notches, place)
	}
	for cents := 1 + draw.IntN(10); cents <= 50 && len(w.Coins) < api.MaxKinds; cents += 1 + draw.IntN(20) {
		w.Coins = append(w.Coins, cents)
	}
	purse := make([]int, len(w.Coins))
	for range draw.IntN(8) {
		purse[draw.IntN(len(purse))]++
	}
	return w, purse
}

// P0.1 (the plays that coins buy): made on one record with a needle of one roughness, they make the needle so much older, and wear the record so many times the roughness.
func TestPlaysThatCoinsBuy(t *testing.T) {
	draw := rand.New(rand.NewPCG(3, 1))
	bought := 0
	for range 200 {
		wheel, purse := drawWheel(draw)
		plays, e := coins.Most(wheel, purse)
		if e != api.OK || plays > api.MaxPlayed {
			t.Fatalf("Most of %v, %v = %d, %d", wheel, purse, plays, e)
		}
		bought += plays
		rough := draw.IntN(api.MaxGrind + 1)
		before, worn := draw.IntN(api.MaxAge+1), draw.IntN(api.MaxWorn+1)
		w := newBox(1, 50, before, 1+draw.IntN(api.MaxNeedle), []int{rough}, newRecord(worn, 0, 0, plays))
		for needle, age := range []int{before + plays, plays} {
			l, n, _, e := wear.Run(w, []api.WearWeek{in(needle)})
			if !slices.Equal(l, []int{worn + plays*rough}) || n != age || e != api.OK {
				t.Errorf("Run of %v, %d = %v, %d, %d; the coins buy %d", w, needle, l, n, e, plays)
			}
		}
	}
	if bought < 200 {
		t.Errorf("only %d plays were bought", bought)
	}
}

// drawTray draws a tray with as many records as a box can have.
func drawTray(draw *rand.Rand) api.Tray {
	x := api.Tray{Way: 1 - 2*draw.IntN(2), Step: draw.IntN(api.MaxTrayStep + 1)}
	for range 1 + draw.IntN(api.MaxWearRecords) {
		x.Records = append(x.Records, api.TrayRecord{Front: 1 + draw.IntN(200), Back: 1 + draw.IntN(200)})
	}
	x.At = draw.IntN(len(x.Records))
	for range draw.IntN(api.MaxPresses + 1) {
		x.Presses = append(x.Presses, api.TrayPress{Side: draw.IntN(2 * len(x.Records)), Time: draw.IntN(2000)})
	}
	return x
}

// P0.10 (the day of a needle): played as often as on a tray, the needle is older by the plays of the tray, and each record more worn by its own ones.
func TestDayOfANeedle(t *testing.T) {
	draw := rand.New(rand.NewPCG(3, 10))
	for range 200 {
		x := drawTray(draw)
		plays, e := tray.Plays(x)
		if e != api.OK {
			t.Fatalf("Plays of %v: %d", x, e)
		}
		w := newBox(1, 50, draw.IntN(40), 1+draw.IntN(9), []int{1, 2, 5, 9})
		for place := range x.Records {
			count := 0
			for _, p := range plays {
				if p.Side/2 == place {
					count++
				}
			}
			w.Records = append(w.Records, newRecord(draw.IntN(99), 99, 0, count))
		}
		for needle, age := range []int{w.Age, 0} {
			var want []int
			at := age
			for _, r := range w.Records {
				for range r.Plays[0] {
					r.Worn += grinds(w, at)
					at++
				}
				want = append(want, r.Worn)
			}
			worn, n, _, e := wear.Run(w, []api.WearWeek{in(needle)})
			if !slices.Equal(worn, want) || n != age+len(plays) || e != api.OK {
				t.Errorf("Run of %v, %d = %v, %d, %d; the tray plays %v", w, needle, worn, n, e, plays)
			}
		}
	}
}
