package route_test

import (
	"math/rand/v2"
	"testing"

	"shellac/api"
	"shellac/route"
	"shellac/takings"
)

// This file tests the promise about this layer and a lower one together.

// drawBox draws a box with few coins, some of them marked; its register shows what the coins can have bought, or not.
func drawBox(draw *rand.Rand) api.Box {
	b := api.Box{Wheel: api.Wheel{Round: 50, Notches: []int{10, 20, 25}, Coins: []int{5, 10, 25}}, Skips: draw.IntN(3)}
	for range b.Wheel.Coins {
		found := draw.IntN(4)
		b.Found, b.Marked, b.Slugs = append(b.Found, found), append(b.Marked, draw.IntN(found+1)), append(b.Slugs, draw.IntN(2))
	}
	b.Plays = draw.IntN(20)
	return b
}

// takingsOf returns the takings of a box.
func takingsOf(t *testing.T, b api.Box) int {
	t.Helper()
	cents, _, _, e := takings.Cash(b)
	if e != api.OK {
		t.Fatalf("Cash of %v: %d", b, e)
	}
	return cents
}

// P0.13 (the collector's round): if the cash of each stop is the takings of a box, Most is at most the takings of Sum of all boxes, and just that if a whole tour is good; with one box emptied it is less by at most the takings of this box.
func TestCollectorsRound(t *testing.T) {
	all, part := 0, 0
	for _, l := range []limits{few, tight} {
		for r, draw := range drawn(150, l) {
			var boxes []api.Box
			for i := range r.Stops {
				boxes = append(boxes, drawBox(draw))
				r.Stops[i].Cash = takingsOf(t, boxes[i])
			}
			sum, _, _, e := takings.Sum(boxes)
			most, f := route.Most(r)
			if most > sum || e != api.OK || f != api.OK {
				t.Errorf("Most of %v = %d, %d; the takings of %v are %d, %d", r, most, f, boxes, sum, e)
			}
			if _, e := route.Soonest(r); e == api.OK {
				all++
				if most != sum {
					t.Errorf("Most of %v = %d, but the takings of %v are %d", r, most, boxes, sum)
				}
			} else if most < sum {
				part++
			}
			for i := range boxes {
				checkEmptied(t, r, i, boxes[i], most)
			}
		}
	}
	if all < 150 || part < 30 {
		t.Errorf("only %d routes have a whole good tour, %d leave cents", all, part)
	}
}

// checkEmptied reports a route on which Most is greater with one box emptied, or less by more than its takings.
func checkEmptied(t *testing.T, r api.Route, i int, b api.Box, most int) {
	t.Helper()
	before := r.Stops[i].Cash
	b.Found, b.Marked = make([]int, len(b.Found)), make([]int, len(b.Marked))
	emptied := with(r, func(r *api.Route) { r.Stops[i].Cash = takingsOf(t, b) })
	after, e := route.Most(emptied)
	if e != api.OK || after > most || after < most-before {
		t.Errorf("Most of %v = %d, %d; before the box %d with %d cents was emptied, %d", emptied, after, e, i, before, most)
	}
}
