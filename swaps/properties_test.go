package swaps_test

import (
	"math/rand/v2"
	"slices"
	"testing"

	"shellac/api"
	"shellac/swaps"
)

// said is all that is said of a visit by promises that compare it with another one.
type said struct {
	best, fair, change int   // fair -1: ErrNone
	copies             []int // for each title
	always             []api.SwapKeep
}

// say asks for all of it.
func say(t *testing.T, s api.Swap) said {
	t.Helper()
	best, e := swaps.Best(s)
	always, f := swaps.Always(s)
	change, g := swaps.Change(s)
	fair, h := swaps.Fair(s)
	if h == api.ErrNone {
		fair, h = -1, api.OK
	}
	if max(e, f, g, h) != api.OK {
		t.Errorf("of %v: %d, %d, %d, %d", s, e, f, g, h)
	}
	x := said{best: best, fair: fair, change: change, always: always}
	for title := range s.Stock {
		n, e := swaps.Copy(s, title)
		if e != api.OK {
			t.Errorf("Copy of %v, %d: %d", s, title, e)
		}
		x.copies = append(x.copies, n)
	}
	return x
}

// fewest returns Fewest, -1 if it is ErrNone.
func fewest(t *testing.T, s api.Swap, goal int) int {
	t.Helper()
	n, e := swaps.Fewest(s, goal)
	switch e {
	case api.OK:
		return n
	case api.ErrNone:
		return -1
	}
	t.Errorf("Fewest of %v, %d: %d", s, goal, e)
	return -1
}

// eachDrawn does something with drawn visits of all sizes, and with what is said of them.
func eachDrawn(t *testing.T, do func(s api.Swap, x said, draw *rand.Rand)) {
	t.Helper()
	for _, l := range []limits{few, scarce, full} {
		for s, draw := range drawn(120, l) {
			do(s, say(t, s), draw)
		}
	}
}

// P7.11 (each plan): each plan that fits earns at most Best, and has at least the changes of Fewest; what is there now fits; Plan fits, and earns Best; each plan that does has all of Always.
func TestEachPlan(t *testing.T) {
	bests := 0
	for _, l := range []limits{few, scarce, full} {
		for s, draw := range drawn(100, l) {
			x := say(t, s)
			if fits, e := swaps.Fits(s, s.Boxes); !fits || e != api.OK {
				t.Errorf("what is there now: Fits of %v = %t, %d", s, fits, e)
			}
			for _, plan := range allPlans(s) {
				if fits, _ := swaps.Fits(s, plan); !fits {
					continue
				}
				_, all, e := swaps.Earns(s, plan)
				if all > x.best || e != api.OK {
					t.Errorf("%v earns %d, %d, but Best of %v = %d", plan, all, e, s, x.best)
				}
				if all == x.best {
					bests++
					checkAlways(t, s, plan, x.always)
				}
				if changes := sum(changesBy(s, plan)); draw.IntN(20) == 0 && fewest(t, s, all) > changes {
					t.Errorf("%v changes %d, and Fewest of %v, %d is more", plan, changes, s, all)
				}
			}
			plan, _ := swaps.Plan(s)
			fits, _ := swaps.Fits(s, plan)
			_, all, e := swaps.Earns(s, plan)
			if !fits || all != x.best || e != api.OK {
				t.Errorf("Plan of %v = %v: fits: %t, earns %d, %d, not %d", s, plan, fits, all, e, x.best)
			}
		}
	}
	if bests < 250 {
		t.Errorf("only %d plans earn Best", bests)
	}
}

// checkAlways reports a plan that does not have all that is always there.
func checkAlways(t *testing.T, s api.Swap, plan [][]int, always []api.SwapKeep) {
	t.Helper()
	for _, k := range always {
		if !slices.Contains(plan[k.Box], k.Title) {
			t.Errorf("%v is a best plan of %v, but Always is %v", plan, s, always)
		}
	}
}

// richer returns visits with one more copy, one more change, one title less that stays, and something that earns more, as far as there can be.
func richer(draw *rand.Rand, s api.Swap) []api.Swap {
	var l []api.Swap
	if s.Changes < api.MaxSlots {
		l = append(l, with(s, func(s *api.Swap) { s.Changes++ }))
	}
	if len(s.Keeps) > 0 {
		l = append(l, with(s, func(s *api.Swap) { i := draw.IntN(len(s.Keeps)); s.Keeps = slices.Delete(s.Keeps, i, i+1) }))
	}
	for title, stock := range s.Stock {
		if stock < api.MaxStock {
			l = append(l, with(s, func(s *api.Swap) { s.Stock[title]++ }))
		}
		for box, cents := range s.Earn[title] {
			if cents < api.MaxEarn {
				l = append(l, with(s, func(s *api.Swap) { s.Earn[title][box] += 1 + draw.IntN(api.MaxEarn-cents) }))
			}
		}
	}
	return l
}

// P7.12 (more): with more copies, more Changes, one Keep less, or something that earns more, Best and Fair are not less, and Fewest is not greater.
func TestMore(t *testing.T) {
	greater, fairer, fewer := 0, 0, 0
	eachDrawn(t, func(s api.Swap, x said, draw *rand.Rand) {
		for _, more := range richer(draw, s) {
			best, e := swaps.Best(more)
			fair, f := swaps.Fair(more)
			if f == api.ErrNone {
				fair, f = -1, api.OK
			}
			if best < x.best || fair < x.fair || max(e, f) != api.OK {
				t.Errorf("Best and Fair of %v = %d, %d; %d, %d, of %v: %d, %d", more, best, e, fair, f, s, x.best, x.fair)
			}
			if best > x.best {
				greater++
			}
			if fair > x.fair {
				fairer++
			}
			for _, goal := range []int{x.best, draw.IntN(x.best + 1)} {
				before, after := fewest(t, s, goal), fewest(t, more, goal)
				if after < 0 || after > before {
					t.Errorf("Fewest of %v, %d = %d, of %v: %d", more, goal, after, s, before)
				}
				if after < before {
					fewer++
				}
			}
		}
	})
	if greater < 300 || fairer < 200 || fewer < 100 {
		t.Errorf("only %d visits are better, %d fairer, %d have fewer changes", greater, fairer, fewer)
	}
}

// P7.13 (moved earnings): if each title earns k more in a box, Best is greater by k times the titles of the box, and Always is the same.
func TestMovedEarnings(t *testing.T) {
	eachDrawn(t, func(s api.Swap, x said, draw *rand.Rand) {
		for box, titles := range s.Boxes {
			greatest := 0
			for _, cents := range s.Earn {
				greatest = max(greatest, cents[box])
			}
			k := draw.IntN(api.MaxEarn - greatest + 1)
			after := say(t, with(s, func(s *api.Swap) {
				for title := range s.Earn {
					s.Earn[title][box] += k
				}
			}))
			if after.best != x.best+k*len(titles) || !slices.Equal(after.always, x.always) {
				t.Errorf("with %d more in the box %d of %v: Best %d, before %d; Always %v, before %v", k, box, s, after.best, x.best, after.always, x.always)
			}
		}
	})
}

// P7.14 (fair): Best is at least Fair times the number of boxes; a plan that fits earns in some box at most Fair.
func TestFairOfEachPlan(t *testing.T) {
	eachDrawn(t, func(s api.Swap, x said, draw *rand.Rand) {
		if len(s.Boxes) == 0 {
			return
		}
		if x.best < x.fair*len(s.Boxes) {
			t.Errorf("of %v: Best = %d, Fair = %d", s, x.best, x.fair)
		}
		plan, _ := swaps.Plan(s)
		plans := [][][]int{s.Boxes, plan}
		for range 50 {
			plans = append(plans, drawPlan(draw, s))
		}
		for _, plan := range plans {
			fits, _ := swaps.Fits(s, plan)
			boxes, _, e := swaps.Earns(s, plan)
			if fits && slices.Min(boxes) > x.fair || e != api.OK {
				t.Errorf("%v earns %v, %d, but Fair of %v is %d", plan, boxes, e, s, x.fair)
			}
		}
	})
}

// P7.15 (fewest): Fewest of what is earned now is 0; with a greater goal it is not less; there is one just if the goal is at most Best.
func TestFewestOfGoals(t *testing.T) {
	eachDrawn(t, func(s api.Swap, x said, draw *rand.Rand) {
		_, now, _ := swaps.Earns(s, s.Boxes)
		if n, e := swaps.Fewest(s, now); n != 0 || e != api.OK {
			t.Errorf("Fewest of %v, which earns %d now, is %d, %d", s, now, n, e)
		}
		goals := []int{0, now, now + 1, x.best, x.best + 1, api.MaxGoal}
		for range 5 {
			goals = append(goals, draw.IntN(x.best+2), now+draw.IntN(x.best-now+2))
		}
		slices.Sort(goals)
		before := 0
		for _, goal := range goals {
			n := fewest(t, s, goal)
			if (n >= 0) != (goal <= x.best) || n >= 0 && n < before {
				t.Errorf("Fewest of %v, %d = %d, of a lesser goal %d; Best is %d", s, goal, n, before, x.best)
			}
			before = max(before, n)
		}
	})
}

// P7.16 (any order): the order of the boxes changes nothing of Best, Fair, Fewest, Copy and Change.
func TestAnyOrder(t *testing.T) {
	eachDrawn(t, func(s api.Swap, x said, draw *rand.Rand) {
		other := copied(s)
		order := draw.Perm(len(s.Boxes))
		for place, box := range order {
			other.Boxes[place] = slices.Clone(s.Boxes[box])
			for title := range s.Earn {
				other.Earn[title][place] = s.Earn[title][box]
			}
		}
		for i, k := range s.Keeps {
			other.Keeps[i].Box = slices.Index(order, k.Box)
		}
		after := say(t, other)
		if after.best != x.best || after.fair != x.fair || after.change != x.change || !slices.Equal(after.copies, x.copies) {
			t.Errorf("of %v: %v; of %v: %v", s, x, other, after)
		}
		for range 3 {
			goal := draw.IntN(x.best + 2)
			if a, b := fewest(t, s, goal), fewest(t, other, goal); a != b {
				t.Errorf("Fewest of %v, %d = %d, of %v: %d", s, goal, a, other, b)
			}
		}
	})
}
