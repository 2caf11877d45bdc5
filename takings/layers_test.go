package takings_test

import (
	"math/rand/v2"
	"testing"

	"shellac/api"
	"shellac/coins"
	"shellac/takings"
	"shellac/tray"
)

// This file tests the promises about this layer and lower ones together.

// P0.2 (the register and the wheel): a register that shows what is bought at the most, or at the least, explains itself; one play more is missing.
func TestRegisterAndWheel(t *testing.T) {
	eachDrawn(60, func(b api.Box, draw *rand.Rand) {
		b.Skips = 0
		most, e := coins.Most(b.Wheel, inside(b))
		least, f := coins.Least(b.Wheel, inside(b))
		if e != api.OK || f != api.OK {
			t.Fatalf("of %v: Most = %d, %d; Least = %d, %d", b, most, e, least, f)
		}
		for _, plays := range []int{most, least} {
			checkAllThere(t, shows(b, plays))
		}
		more := shows(b, most+1)
		short, e := takings.Short(more)
		skipped, f := takings.Skipped(more)
		if short != 1 || e != api.OK || skipped != 0 || f != api.ErrNone {
			t.Errorf("of %v: Short = %d, %d; Skipped = %d, %d", more, short, e, skipped, f)
		}
		for n := range api.MaxSkips + 1 {
			if cents, e := takings.Missing(skips(more, n)); e != api.ErrNone && (e != api.OK || cents <= 0) {
				t.Errorf("Missing of %v with Skips %d = %d, %d", more, n, cents, e)
			}
		}
	})
}

// checkAllThere reports a box of which something is missing, skipped or short, and one whose coins and slugs are worth less than its plays cost.
func checkAllThere(t *testing.T, b api.Box) {
	t.Helper()
	missing, e := takings.Missing(b)
	skipped, f := takings.Skipped(b)
	short, g := takings.Short(b)
	if missing != 0 || e != api.OK || skipped != 0 || f != api.OK || short != 0 || g != api.OK {
		t.Errorf("of %v: Missing = %d, %d; Skipped = %d, %d; Short = %d, %d", b, missing, e, skipped, f, short, g)
	}
	checkWorth(t, b, b.Plays, 0)
}

// checkWorth reports a box whose coins and slugs are together with what is missing worth less than so many plays cost.
func checkWorth(t *testing.T, b api.Box, plays, missing int) {
	t.Helper()
	if plays == 0 || plays > api.MaxPlays {
		return
	}
	out, house, slugs := cash(t, b)
	cost, e := coins.Cheapest(b.Wheel, plays)
	if all := out + house + slugs + missing; e != api.OK || all < cost {
		t.Errorf("all of %v and %d missing are worth %d; %d plays cost %d, %d", b, missing, all, plays, cost, e)
	}
}

// drawTray draws a tray with so many presses.
func drawTray(draw *rand.Rand, presses int) api.Tray {
	x := api.Tray{Way: 1 - 2*draw.IntN(2), Step: draw.IntN(api.MaxTrayStep + 1)}
	for range 1 + draw.IntN(api.MaxTray) {
		x.Records = append(x.Records, api.TrayRecord{Front: 1 + draw.IntN(200), Back: 1 + draw.IntN(200)})
	}
	x.At = draw.IntN(len(x.Records))
	for range presses {
		x.Presses = append(x.Presses, api.TrayPress{Side: draw.IntN(2 * len(x.Records)), Time: draw.IntN(1000)})
	}
	return x
}

// P0.3 (what was pressed and paid): if the register shows the presses of a tray, what is in the box and what is missing is worth at least what they cost; the tray does not play more often.
func TestPressedAndPaid(t *testing.T) {
	paid := 0
	eachDrawn(80, func(b api.Box, draw *rand.Rand) {
		b.Skips = 0
		x := drawTray(draw, min(b.Plays, draw.IntN(api.MaxPresses+1)))
		b.Plays = len(x.Presses)
		if plays, e := tray.Plays(x); e != api.OK || len(plays) > b.Plays {
			t.Errorf("Plays of %v = %v, %d; %d are paid", x, plays, e, b.Plays)
		}
		if cents := missing(t, b); cents >= 0 {
			paid++
			checkWorth(t, b, b.Plays, cents)
		}
	})
	if paid < 50 {
		t.Errorf("only %d boxes can be explained", paid)
	}
}
