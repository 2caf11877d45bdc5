package swaps_test

import (
	"fmt"
	"math"
	"slices"
	"testing"

	"shellac/api"
	"shellac/swaps"
)

// answers returns all that the functions say of arguments, as one text.
func answers(s api.Swap, plan [][]int, title, goal int) string {
	fits, e := swaps.Fits(s, plan)
	boxes, all, f := swaps.Earns(s, plan)
	best, g := swaps.Plan(s)
	always, h := swaps.Always(s)
	text := fmt.Sprint(swaps.Check(s), ";", fits, e, ";", boxes, all, f, ";", best, g, ";", always, h)
	for _, of := range []func(api.Swap) (int, api.Errno){
		swaps.Best, swaps.Fair, swaps.Change,
		func(s api.Swap) (int, api.Errno) { return swaps.Fewest(s, goal) },
		func(s api.Swap) (int, api.Errno) { return swaps.Copy(s, title) },
	} {
		n, e := of(s)
		text += fmt.Sprint(";", n, e)
	}
	return text
}

// P1: every function returns, whatever it is given.
func TestAnyArguments(t *testing.T) {
	wild := []api.Swap{
		newVisit(math.MinInt, []int{math.MaxInt}, [][]int{{math.MinInt}}, []int{math.MaxInt}),
		newVisit(math.MaxInt, []int{9}, [][]int{{9}}, []int{math.MinInt}),
		newVisit(1, make([]int, 1000), make([][]int, 1000), make([]int, 1000)),
		{Boxes: make([][]int, 1000)},
		{Keeps: slices.Repeat([]api.SwapKeep{keep(math.MaxInt, math.MinInt)}, 1000)},
		with(ordinary(), func(s *api.Swap) { s.Keeps[0] = keep(math.MinInt, math.MaxInt) }),
	}
	for _, s := range slices.Concat(validVisits(), invalidVisits(), wild) {
		for _, n := range []int{0, 1, -1, 6, 100, math.MaxInt, math.MinInt} {
			answers(s, s.Boxes, n, n)
			for _, plan := range append(badPlans(), [][]int{{n}}, [][]int{{0, n}, {n}}) {
				ofPlan(s, plan)
			}
		}
	}
}

// P1: the greatest visits are done in time, and no number is too great.
func TestGreatestArguments(t *testing.T) {
	s := widest()
	for title := range s.Earn {
		for box := range s.Earn[title] {
			s.Earn[title][box] -= 100*title + box
		}
	}
	x := say(t, s)
	want := []api.SwapKeep{keep(0, 0), keep(0, 1), keep(0, 2), keep(1, 0), keep(1, 1), keep(1, 2), keep(2, 0), keep(2, 1), keep(2, 2)}
	if x.best != 9*api.MaxEarn-900-9 || x.fair != 3*api.MaxEarn-300-6 || x.change != 0 || slices.Max(x.copies) != 0 || !slices.Equal(x.always, want) {
		t.Errorf("of %v: %v", s, x)
	}
	if n := fewest(t, s, x.best); n != 5 {
		t.Errorf("Fewest of %v, %d = %d", s, x.best, n)
	}
}

// R3: nil and empty lists are the same.
func TestNilAndEmpty(t *testing.T) {
	for _, x := range [][2]api.Swap{
		{{}, {Boxes: [][]int{}, Stock: []int{}, Earn: [][]int{}, Keeps: []api.SwapKeep{}}},
		{{Stock: []int{1}}, {Boxes: [][]int{}, Stock: []int{1}}},
		{newVisit(1, nil, nil, nil, nil), newVisit(1, []int{}, [][]int{}, []int{}, []int{})},
		{newVisit(1, []int{1}, [][]int{nil}), newVisit(1, []int{1}, [][]int{{}})},
		{newVisit(1, []int{1}, [][]int{{4, 5}}, nil, []int{0}), newVisit(1, []int{1}, [][]int{{4, 5}}, []int{}, []int{0})},
	} {
		for _, plans := range [][2][][]int{{nil, {}}, {{nil, nil}, {{}, {}}}, {{nil, {0}}, {{}, {0}}}} {
			if a, b := answers(x[0], plans[0], 0, 1), answers(x[1], plans[1], 0, 1); a != b {
				t.Errorf("nil: %s; empty: %s", a, b)
			}
		}
	}
}

// spoil writes over a list, and over the memory behind it.
func spoil(list []int) {
	list = list[:cap(list)]
	for i := range list {
		list[i] = 99
	}
}

// roomy returns a copy of a list with memory behind it.
func roomy(list []int) []int {
	return append(slices.Clone(list), 77, 77)[:len(list)]
}

// roomyVisit returns a copy of a visit with memory behind its lists.
func roomyVisit(s api.Swap) api.Swap {
	s = copied(s)
	s.Stock = roomy(s.Stock)
	for i, l := range s.Boxes {
		s.Boxes[i] = roomy(l)
	}
	for i, l := range s.Earn {
		s.Earn[i] = roomy(l)
	}
	s.Keeps = append(s.Keeps, keep(77, 77))[:len(s.Keeps)]
	s.Boxes = append(s.Boxes, []int{77})[:len(s.Boxes)]
	s.Earn = append(s.Earn, []int{77})[:len(s.Earn)]
	return s
}

// whole is a text of a visit and a plan, with the memory behind their lists.
func whole(s api.Swap, plan [][]int) string {
	text := fmt.Sprint(s.Stock[:cap(s.Stock)], s.Keeps[:cap(s.Keeps)], s.Changes)
	for _, lists := range [][][]int{s.Boxes, s.Earn, plan} {
		for _, l := range lists[:cap(lists)] {
			text += fmt.Sprint(";", l[:cap(l)])
		}
	}
	return text
}

// R4: no argument is changed, nor the memory behind it.
func TestArgumentsStay(t *testing.T) {
	for d, draw := range drawn(100, scarce) {
		s := roomyVisit(d)
		plan := drawPlan(draw, s)
		for i, l := range plan {
			plan[i] = roomy(l)
		}
		text := whole(s, plan)
		for title := range max(1, len(s.Stock)) {
			answers(s, plan, title, draw.IntN(100))
		}
		for _, p := range [][][]int{plan, s.Boxes} {
			boxes, _, _ := swaps.Earns(s, p)
			spoil(boxes)
		}
		best, _ := swaps.Plan(s)
		for box, l := range best {
			spoil(l)
			best[box] = nil
		}
		if after := whole(s, plan); after != text {
			t.Errorf("changed from %s to %s", text, after)
		}
	}
}

// R4: a result is new memory each time, and no two boxes of a plan share any.
func TestResultsAreNew(t *testing.T) {
	s := widest()
	for range 2 {
		plan, e := swaps.Plan(s)
		if e != api.OK || !isBestPlan(s, plan) {
			t.Fatalf("Plan = %v, %d", plan, e)
		}
		for box, l := range plan {
			before := fmt.Sprint(plan[box+1:])
			spoil(append(l, 99))
			spoil(l)
			if after := fmt.Sprint(plan[box+1:]); after != before {
				t.Errorf("the boxes behind %d were %s, and are %s", box, before, after)
			}
		}
		boxes, _, e := swaps.Earns(s, s.Boxes)
		if e != api.OK || !slices.Equal(boxes, []int{2997, 2997, 2997}) {
			t.Fatalf("Earns = %v, %d", boxes, e)
		}
		spoil(boxes)
		always, e := swaps.Always(visitS())
		if e != api.OK || !slices.Equal(always, []api.SwapKeep{keep(0, 0), keep(0, 2), keep(1, 0), keep(1, 3)}) {
			t.Fatalf("Always = %v, %d", always, e)
		}
		clear(always[:cap(always)])
	}
}

// isBestPlan returns whether a plan fits, and earns as much as Best.
func isBestPlan(s api.Swap, plan [][]int) bool {
	fits, _ := swaps.Fits(s, plan)
	_, all, _ := swaps.Earns(s, plan)
	best, _ := swaps.Best(s)
	return fits && all == best
}

// No state is kept: what was asked before changes no answer.
func TestNoState(t *testing.T) {
	plan := [][]int{{0, 1}, {3}}
	a, b := answers(visitS(), visitS().Boxes, 3, 22), answers(ordinary(), plan, 3, 22)
	if a == b {
		t.Errorf("two visits answer the same: %s", a)
	}
	if again := answers(visitS(), visitS().Boxes, 3, 22); again != a {
		t.Errorf("first %s, then %s", a, again)
	}
	if again := answers(ordinary(), plan, 3, 22); again != b {
		t.Errorf("first %s, then %s", b, again)
	}
}
