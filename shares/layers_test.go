package shares_test

import (
	"math/rand/v2"
	"testing"

	"shellac/api"
	"shellac/shares"
	"shellac/swaps"
	"shellac/takings"
)

// This file tests the promises about this layer and lower ones together.

// drawBox draws a box with few coins, whose register shows about what they can have bought; the coins of some boxes are cents.
func drawBox(draw *rand.Rand) api.Box {
	b := api.Box{Wheel: api.Wheel{Round: 50, Notches: []int{10, 20, 25}, Coins: []int{5, 10, 25}}, Skips: draw.IntN(2)}
	if draw.IntN(2) == 0 {
		b.Wheel = api.Wheel{Round: 6, Notches: []int{2, 3, 6}, Coins: []int{1, 2, 3}}
	}
	for range b.Wheel.Coins {
		found := draw.IntN(4)
		b.Found, b.Marked, b.Slugs = append(b.Found, found), append(b.Marked, draw.IntN(found+1)), append(b.Slugs, draw.IntN(2))
	}
	can, _ := takings.Can(b)
	b.Plays = max(0, can[draw.IntN(len(can))]+draw.IntN(5)-1)
	return b
}

// P0.5 (the owner and the box): the split of a box is that of a week with its takings; what is missing is not worth less than nothing to the owner, if at most one clause is a Percent or a Steps; if nothing is missing, it is worth nothing.
func TestOwnerAndBox(t *testing.T) {
	all, worth, none := 0, 0, 0
	eachDrawn(150, func(s api.Share, draw drawer) {
		b := drawBox(draw.Rand)
		cash, _, _, e := takings.Cash(b)
		missing, f := takings.Missing(b)
		x, more, g := shares.Box(s, b)
		if e != api.OK || g != api.OK || x != week(t, s, cash) {
			t.Errorf("Box of %v, %v = %v, %d; its takings are %d, %d", s, b, x, g, cash, e)
		}
		switch {
		case f == api.ErrNone:
			none++
			if more != 0 {
				t.Errorf("Box of %v, %v: %d more, though nothing explains it", s, b, more)
			}
		case missing == 0:
			all++
			if more != 0 {
				t.Errorf("Box of %v, %v: %d more, though nothing is missing", s, b, more)
			}
		default:
			if want := week(t, s, cash+missing).Owner - x.Owner; more != want || cuts(s) <= 1 && more < 0 {
				t.Errorf("Box of %v, %v: %d more, not %d", s, b, more, want)
			}
			if more > 0 {
				worth++
			}
		}
	})
	if all < 50 || worth < 20 || none < 5 {
		t.Errorf("nothing is missing in only %d boxes; in only %d what is missing is worth something; only %d cannot be explained", all, worth, none)
	}
}

// drawVisit draws a visit to some boxes, whose titles can be changed.
func drawVisit(draw *rand.Rand) api.Swap {
	s := api.Swap{Changes: draw.IntN(api.MaxSlots + 1)}
	titles := 1 + draw.IntN(api.MaxTitles)
	for range draw.IntN(api.MaxSwapBoxes + 1) {
		var box []int
		for title := range titles {
			if len(box) < api.MaxSlots && draw.IntN(2) == 0 {
				box = append(box, title)
			}
		}
		s.Boxes = append(s.Boxes, box)
	}
	for range titles {
		var earn []int
		for range s.Boxes {
			earn = append(earn, draw.IntN(api.MaxEarn+1))
		}
		s.Stock, s.Earn = append(s.Stock, draw.IntN(3)), append(s.Earn, earn)
	}
	return s
}

// P0.6 (the better box): of what boxes earn as much as they can, the owner does not get less than of what they earn now, if at most one clause is a Percent or a Steps; what more is earned, operator and owner get together.
func TestBetterBox(t *testing.T) {
	better := 0
	eachDrawn(250, func(s api.Share, draw drawer) {
		v := drawVisit(draw.Rand)
		_, now, e := swaps.Earns(v, v.Boxes)
		best, f := swaps.Best(v)
		if e != api.OK || f != api.OK {
			t.Fatalf("of %v: Earns %d, Best %d", v, e, f)
		}
		x, y := week(t, s, now), week(t, s, best)
		if y.Operator+y.Owner-x.Operator-x.Owner != best-now {
			t.Errorf("of %v, %d is split as %v, %d as %v", s, now, x, best, y)
		}
		if cuts(s) > 1 {
			return
		}
		if y.Owner < x.Owner {
			t.Errorf("of %v the owner gets %d of %d, %d of %d", s, x.Owner, now, y.Owner, best)
		}
		if y.Owner > x.Owner {
			better++
		}
	})
	if better < 60 {
		t.Errorf("only %d times the owner gets more", better)
	}
}
