package swaps_test

import (
	"math/rand/v2"
	"slices"
	"testing"

	"shellac/api"
	"shellac/swaps"
)

// P7.2: the chapter's examples, changes of each box alone, titles that stay, and copies in the van and in boxes.
func TestFits(t *testing.T) {
	stay := with(visitS(), func(s *api.Swap) { s.Keeps = []api.SwapKeep{keep(0, 0), keep(1, 2)} })
	for i, x := range []struct {
		s    api.Swap
		plan [][]int
		want bool
	}{
		{visitS(), [][]int{{0, 3}, {0, 2}}, true},
		{visitS(), [][]int{{2, 3}, {0, 2}}, false},
		{visitS(), [][]int{{0, 1}, {0, 1}}, false},
		{visitS(), [][]int{{0, 1}, {0, 3}}, true},
		{visitS(), [][]int{{0, 1}, {0, 2}}, true},
		// both boxes take a title of the other one
		{visitS(), [][]int{{0, 2}, {0, 1}}, true},
		{visitS(), [][]int{{1, 2}, {0, 3}}, true},
		{visitS(), [][]int{{0, 3}, {0, 3}}, false},
		// a title leaves all boxes
		{visitS(), [][]int{{1, 2}, {2, 3}}, false},
		{visitS(), [][]int{{1, 3}, {0, 2}}, true},
		// each title of Keeps is in its box
		{stay, [][]int{{0, 1}, {0, 2}}, true},
		{stay, [][]int{{0, 3}, {0, 2}}, true},
		{stay, [][]int{{0, 1}, {2, 3}}, true},
		{stay, [][]int{{1, 3}, {0, 2}}, false},
		{stay, [][]int{{0, 1}, {0, 3}}, false},
		{stay, [][]int{{0, 2}, {0, 2}}, false},
		{stay, [][]int{{0, 2}, {0, 1}}, false},
		// a title that stays is not kept out of another box
		{with(stay, func(s *api.Swap) { s.Stock[2] = 1 }), [][]int{{0, 2}, {0, 2}}, true},
		// just so many changes, and one more
		{oneBox(0, []int{0, 1, 2}, 1, 1, 1, 1, 1, 1), [][]int{{0, 1, 2}}, true},
		{oneBox(0, []int{0, 1, 2}, 1, 1, 1, 1, 1, 1), [][]int{{0, 1, 3}}, false},
		{oneBox(2, []int{0, 1, 2}, 1, 1, 1, 1, 1, 1), [][]int{{2, 3, 4}}, true},
		{oneBox(2, []int{0, 1, 2}, 1, 1, 1, 1, 1, 1), [][]int{{3, 4, 5}}, false},
		{oneBox(3, []int{0, 1, 2}, 1, 1, 1, 1, 1, 1), [][]int{{3, 4, 5}}, true},
		// copies in the van, and in the box
		{newVisit(1, []int{0, 0}, [][]int{{1}, {1}}, []int{0}), [][]int{{0}}, true},
		{newVisit(1, []int{0, 0}, [][]int{{1}, {1}}, []int{0}), [][]int{{1}}, false},
		{newVisit(1, []int{0, 1}, [][]int{{1}, {1}}, []int{0}), [][]int{{1}}, true},
		{newVisit(3, []int{1}, [][]int{{1, 1, 1}}, []int{0}, []int{0}, []int{0}), [][]int{{0}, {0}, {0}}, true},
		{newVisit(1, []int{0, 2}, [][]int{{1, 1, 1}, {1, 1, 1}}, []int{0}, []int{0}, []int{0}), [][]int{{1}, {1}, {1}}, false},
		{newVisit(1, []int{0, 3}, [][]int{{1, 1, 1}, {1, 1, 1}}, []int{0}, []int{0}, []int{0}), [][]int{{1}, {1}, {1}}, true},
		{newVisit(1, []int{0, 2}, [][]int{{1, 1, 1}, {1, 1, 1}}, []int{0}, []int{0}, []int{1}), [][]int{{1}, {1}, {1}}, true},
		// only the boxes that change take from the van
		{newVisit(1, []int{0, 0}, [][]int{{1, 1, 1}, {1, 1, 1}}, []int{0}, []int{0}, []int{1}), [][]int{{0}, {1}, {0}}, true},
		{newVisit(1, []int{0, 0}, [][]int{{1, 1, 1}, {1, 1, 1}}, []int{0}, []int{0}, []int{1}), [][]int{{0}, {1}, {1}}, false},
		{widest(), [][]int{{3, 4, 5}, {0, 1, 5}, {0, 1, 2}}, true},
		{api.Swap{}, nil, true},
		{newVisit(0, nil, nil, nil, nil), [][]int{nil, {}}, true},
	} {
		if fits, e := swaps.Fits(x.s, x.plan); fits != x.want || e != api.OK {
			t.Errorf("%d: Fits = %t, %d", i, fits, e)
		}
	}
}

// P7.3: the chapter's example, plans that do not fit, boxes that earn differently, and boxes without titles.
func TestEarns(t *testing.T) {
	for i, x := range []struct {
		s     api.Swap
		plan  [][]int
		boxes []int
		all   int
	}{
		{visitS(), [][]int{{0, 1}, {0, 2}}, []int{9, 12}, 21},
		{visitS(), [][]int{{0, 2}, {0, 3}}, []int{11, 17}, 28},
		{visitS(), [][]int{{2, 3}, {0, 3}}, []int{13, 17}, 30},
		{visitS(), [][]int{{0, 1}, {0, 1}}, []int{9, 10}, 19},
		{ordinary(), [][]int{{2, 3}, {1}}, []int{13, 1}, 14},
		{widest(), [][]int{{0, 1, 2}, {2, 3, 4}, {3, 4, 5}}, []int{2997, 2997, 2997}, 8991},
		{newVisit(1, []int{0}, [][]int{{1, 20, 300}}, []int{0}, nil, []int{0}), [][]int{{0}, nil, {0}}, []int{1, 0, 300}, 301},
		{newVisit(1, nil, nil, nil), [][]int{nil}, []int{0}, 0},
		{api.Swap{}, nil, nil, 0},
	} {
		boxes, all, e := swaps.Earns(x.s, x.plan)
		if !slices.Equal(boxes, x.boxes) || all != x.all || e != api.OK {
			t.Errorf("%d: Earns = %v, %d, %d", i, boxes, all, e)
		}
	}
}

// exchange is a visit without copies in the van: each of two boxes has the title that earns more in the other one.
func exchange(changes int) api.Swap {
	return newVisit(changes, []int{0, 0}, [][]int{{1, 8}, {5, 2}}, []int{0}, []int{1})
}

// round is a visit in which each of three boxes needs the title of the next one.
func round() api.Swap {
	return newVisit(1, []int{0, 0, 0}, [][]int{{1, 0, 7}, {7, 1, 0}, {0, 7, 1}}, []int{0}, []int{1}, []int{2})
}

// P7.4, P7.6: the chapter's example, no changes, no copies, titles that stay, boxes that exchange titles, equal plans, and no boxes.
func TestBestAndAlways(t *testing.T) {
	for i, x := range []struct {
		s      api.Swap
		best   int
		always []api.SwapKeep
	}{
		{visitS(), 28, []api.SwapKeep{keep(0, 0), keep(0, 2), keep(1, 0), keep(1, 3)}},
		{with(visitS(), func(s *api.Swap) { s.Changes = 0 }), 21, []api.SwapKeep{keep(0, 0), keep(0, 1), keep(1, 0), keep(1, 2)}},
		{with(visitS(), func(s *api.Swap) { s.Stock[3] = 0 }), 21, []api.SwapKeep{keep(0, 0), keep(1, 0)}},
		{with(visitS(), func(s *api.Swap) { s.Keeps = []api.SwapKeep{keep(0, 1)} }), 27, []api.SwapKeep{keep(0, 1), keep(0, 2), keep(1, 0), keep(1, 3)}},
		{with(visitS(), func(s *api.Swap) { s.Keeps = []api.SwapKeep{keep(1, 2), keep(1, 0)} }), 24, []api.SwapKeep{keep(0, 0), keep(0, 3), keep(1, 0), keep(1, 2)}},
		{exchange(1), 13, []api.SwapKeep{keep(0, 1), keep(1, 0)}},
		{exchange(0), 3, []api.SwapKeep{keep(0, 0), keep(1, 1)}},
		{with(exchange(1), func(s *api.Swap) { s.Keeps = []api.SwapKeep{keep(0, 0)} }), 3, []api.SwapKeep{keep(0, 0), keep(1, 1)}},
		{with(exchange(1), func(s *api.Swap) { s.Stock[0], s.Keeps = 1, []api.SwapKeep{keep(0, 0)} }), 9, []api.SwapKeep{keep(0, 0), keep(1, 0)}},
		{round(), 21, []api.SwapKeep{keep(0, 1), keep(1, 2), keep(2, 0)}},
		{with(round(), func(s *api.Swap) { s.Keeps = []api.SwapKeep{keep(2, 2)} }), 8, []api.SwapKeep{keep(0, 1), keep(1, 0), keep(2, 2)}},
		// plans that earn the same have less in common, or nothing, whatever is in the box now
		{oneBox(1, []int{0}, 5, 5, 4), 5, nil},
		{oneBox(1, []int{2}, 5, 5, 4), 5, nil},
		{oneBox(2, []int{2, 3}, 5, 5, 9, 1), 14, []api.SwapKeep{keep(0, 2)}},
		{oneBox(1, []int{0, 3}, 5, 5, 9, 1), 14, []api.SwapKeep{keep(0, 0), keep(0, 2)}},
		{oneBox(3, []int{0, 1, 2}, 0, 0, 0, 0, 0, 0), 0, nil},
		{oneBox(1, []int{0, 1, 2}, 0, 0, 0), 0, []api.SwapKeep{keep(0, 0), keep(0, 1), keep(0, 2)}},
		{newVisit(1, []int{0, 0}, [][]int{{7, 9}, {7, 9}}, []int{0}, []int{1}), 16, nil},
		// as many changes as there may be
		{oneBox(3, []int{0, 1, 2}, 1, 2, 3, 4, 5, 6), 15, []api.SwapKeep{keep(0, 3), keep(0, 4), keep(0, 5)}},
		{oneBox(2, []int{0, 1, 2}, 1, 2, 3, 4, 5, 6), 14, []api.SwapKeep{keep(0, 2), keep(0, 4), keep(0, 5)}},
		{newVisit(1, []int{0}, [][]int{{3, 4, 5}}, []int{0}, nil, []int{0}), 8, []api.SwapKeep{keep(0, 0), keep(2, 0)}},
		{newVisit(3, []int{1}, [][]int{{3, 4}}, nil, nil), 0, nil},
		{widest(), 9 * api.MaxEarn, nil},
		{api.Swap{}, 0, nil},
		{newVisit(3, []int{1, 2}, make([][]int, 2)), 0, nil},
	} {
		best, e := swaps.Best(x.s)
		always, f := swaps.Always(x.s)
		if best != x.best || e != api.OK || !slices.Equal(always, x.always) || f != api.OK {
			t.Errorf("%d: Best = %d, %d; Always = %v, %d", i, best, e, always, f)
		}
		checkPlan(t, x.s, x.best)
	}
}

// checkPlan reports a Plan that is none of the visit, does not fit, or does not earn so much; any such plan will do.
func checkPlan(t *testing.T, s api.Swap, best int) {
	t.Helper()
	plan, e := swaps.Plan(s)
	isPlan := slices.ContainsFunc(allPlans(s), func(p [][]int) bool { return slices.EqualFunc(plan, p, slices.Equal) })
	if e != api.OK || !isPlan || !fitsBy(s, plan) || sum(earnsBy(s, plan)) != best {
		t.Errorf("Plan of %v = %v, %d; at the most %d", s, plan, e, best)
	}
}

// P7.5: the chapter's example, and other visits with one best plan.
func TestPlan(t *testing.T) {
	for i, x := range []struct {
		s    api.Swap
		want [][]int
	}{
		{visitS(), [][]int{{0, 2}, {0, 3}}},
		{with(visitS(), func(s *api.Swap) { s.Changes = 0 }), [][]int{{0, 1}, {0, 2}}},
		{with(visitS(), func(s *api.Swap) { s.Keeps = []api.SwapKeep{keep(0, 1)} }), [][]int{{1, 2}, {0, 3}}},
		{exchange(1), [][]int{{1}, {0}}},
		{round(), [][]int{{1}, {2}, {0}}},
		{oneBox(3, []int{0, 1, 2}, 1, 2, 3, 4, 5, 6), [][]int{{3, 4, 5}}},
		{oneBox(2, []int{0, 1, 2}, 1, 2, 3, 4, 5, 6), [][]int{{2, 4, 5}}},
		{oneBox(1, []int{0, 1, 2}, 1, 2, 3, 4, 5, 6), [][]int{{1, 2, 5}}},
		{newVisit(1, []int{0}, [][]int{{3, 4, 5}}, []int{0}, nil, []int{0}), [][]int{{0}, nil, {0}}},
		{newVisit(1, nil, nil, nil), [][]int{nil}},
		{api.Swap{}, nil},
	} {
		plan, e := swaps.Plan(x.s)
		if !slices.EqualFunc(plan, x.want, slices.Equal) || e != api.OK {
			t.Errorf("%d: Plan = %v, %d", i, plan, e)
		}
	}
}

// P7.7: the chapter's example, plans that earn less altogether, boxes without titles, and no boxes.
func TestFair(t *testing.T) {
	// the one copy in the van earns most in the second box, but is needed in the first one
	needy := newVisit(1, []int{0, 0, 1}, [][]int{{1, 1}, {1, 9}, {6, 90}}, []int{0}, []int{1})
	for i, x := range []struct {
		s    api.Swap
		want int // -1: ErrNone
	}{
		{visitS(), 12},
		{with(visitS(), func(s *api.Swap) { s.Changes = 0 }), 9},
		{with(visitS(), func(s *api.Swap) { s.Keeps = []api.SwapKeep{keep(0, 1)} }), 11},
		{needy, 6},
		{with(needy, func(s *api.Swap) { s.Stock[2] = 2 }), 6},
		{with(needy, func(s *api.Swap) { s.Changes = 0 }), 1},
		{exchange(1), 5},
		{exchange(0), 1},
		{round(), 7},
		{widest(), 3 * api.MaxEarn},
		{oneBox(2, []int{0, 1, 2}, 1, 2, 3, 4, 5, 6), 14},
		{newVisit(1, []int{9}, [][]int{{3, 4, 5}}, []int{0}, nil, []int{0}), 0},
		{newVisit(3, nil, nil, nil), 0},
		{api.Swap{}, -1},
		{newVisit(3, []int{1, 2}, make([][]int, 2)), -1},
	} {
		n, e := swaps.Fair(x.s)
		if x.want < 0 && (n != 0 || e != api.ErrNone) || x.want >= 0 && (n != x.want || e != api.OK) {
			t.Errorf("%d: Fair = %d, %d", i, n, e)
		}
	}
}

// P7.8: the chapter's examples, goals just at and above what so many changes earn, exchanges, and no boxes.
func TestFewest(t *testing.T) {
	steps := oneBox(3, []int{0, 1, 2}, 1, 2, 3, 4, 5, 6)
	for i, x := range []struct {
		s          api.Swap
		goal, want int // -1: ErrNone
	}{
		{visitS(), 0, 0},
		{visitS(), 21, 0},
		{visitS(), 22, 1},
		{visitS(), 26, 1},
		{visitS(), 27, 2},
		{visitS(), 28, 2},
		{visitS(), 29, -1},
		{visitS(), api.MaxGoal, -1},
		{steps, 6, 0},
		{steps, 7, 1},
		{steps, 11, 1},
		{steps, 12, 2},
		{steps, 14, 2},
		{steps, 15, 3},
		{steps, 16, -1},
		{with(steps, func(s *api.Swap) { s.Changes = 1 }), 12, -1},
		{exchange(1), 3, 0},
		{exchange(1), 4, 2},
		{exchange(1), 13, 2},
		{exchange(1), 14, -1},
		{exchange(0), 4, -1},
		{round(), 3, 0},
		{round(), 4, 2},
		{round(), 8, 2},
		{round(), 9, 3},
		{round(), 21, 3},
		{round(), 22, -1},
		{widest(), 9 * api.MaxEarn, 0},
		{widest(), 9*api.MaxEarn + 1, -1},
		{api.Swap{}, 0, 0},
		{api.Swap{}, 1, -1},
		{newVisit(3, []int{1}, [][]int{{9}}, nil), 0, 0},
		{newVisit(3, []int{1}, [][]int{{9}}, nil), 1, -1},
	} {
		n, e := swaps.Fewest(x.s, x.goal)
		if x.want < 0 && (n != 0 || e != api.ErrNone) || x.want >= 0 && (n != x.want || e != api.OK) {
			t.Errorf("%d: Fewest of %d = %d, %d", i, x.goal, n, e)
		}
	}
}

// P7.9: the chapter's examples, copies that are there, that no box can take, and one more than MaxStock.
func TestCopy(t *testing.T) {
	// a title for all of three boxes, with so many copies in the van
	wanted := func(stock int) api.Swap {
		return newVisit(1, []int{0, stock}, [][]int{{1, 2, 3}, {11, 22, 33}}, []int{0}, []int{0}, []int{0})
	}
	for i, x := range []struct {
		s           api.Swap
		title, want int
	}{
		{visitS(), 0, 0},
		{visitS(), 1, 0},
		{visitS(), 2, 0},
		{visitS(), 3, 1},
		{wanted(0), 1, 30},
		{wanted(1), 1, 20},
		{wanted(2), 1, 10},
		{wanted(3), 1, 0},
		{wanted(api.MaxStock), 1, 0},
		{wanted(0), 0, 0},
		{with(wanted(0), func(s *api.Swap) { s.Changes = 0 }), 1, 0},
		{with(wanted(0), func(s *api.Swap) { s.Keeps = []api.SwapKeep{keep(2, 0)} }), 1, 20},
		{exchange(1), 0, 0},
		{with(exchange(1), func(s *api.Swap) { s.Keeps = []api.SwapKeep{keep(0, 0)} }), 0, 6},
		{newVisit(1, []int{0}, [][]int{{9}}, nil), 0, 0},
		{newVisit(1, []int{0}, make([][]int, 1)), 0, 0},
		{widest(), 5, 0},
	} {
		if n, e := swaps.Copy(x.s, x.title); n != x.want || e != api.OK {
			t.Errorf("%d: Copy of %d = %d, %d", i, x.title, n, e)
		}
	}
}

// P7.10: the chapter's example, one more change in one box and in several ones, and one more than MaxSlots.
func TestChange(t *testing.T) {
	steps := func(changes int) api.Swap { return oneBox(changes, []int{0, 1, 2}, 1, 2, 3, 5, 7, 9) }
	for i, x := range []struct {
		s    api.Swap
		want int
	}{
		{visitS(), 0},
		{with(visitS(), func(s *api.Swap) { s.Changes = 0 }), 7},
		{steps(0), 8},
		{steps(1), 5},
		{steps(2), 2},
		{steps(api.MaxSlots), 0},
		{exchange(0), 10},
		{exchange(1), 0},
		{with(round(), func(s *api.Swap) { s.Changes = 0 }), 18},
		{with(exchange(0), func(s *api.Swap) { s.Keeps = []api.SwapKeep{keep(1, 1)} }), 0},
		{widest(), 0},
		{api.Swap{}, 0},
		{newVisit(0, []int{1}, [][]int{{9}}, nil), 0},
	} {
		if n, e := swaps.Change(x.s); n != x.want || e != api.OK {
			t.Errorf("%d: Change = %d, %d", i, n, e)
		}
	}
}

// checkPlans compares all that is said of a visit with what is seen of its plans.
func checkPlans(t *testing.T, s api.Swap, all []seen) {
	t.Helper()
	best := bestBy(all)
	is := func(name string, n int, e api.Errno, want int) {
		t.Helper()
		if want < 0 && (n != 0 || e != api.ErrNone) || want >= 0 && (n != want || e != api.OK) {
			t.Errorf("%s of %v = %d, %d, not %d", name, s, n, e, want)
		}
	}
	n, e := swaps.Best(s)
	is("Best", n, e, best)
	checkPlan(t, s, best)
	if always, e := swaps.Always(s); !slices.Equal(always, alwaysBy(s, all)) || e != api.OK {
		t.Errorf("Always of %v = %v, %d, not %v", s, always, e, alwaysBy(s, all))
	}
	fair := -1
	if len(s.Boxes) > 0 {
		fair = fairBy(all)
	}
	n, e = swaps.Fair(s)
	is("Fair", n, e, fair)
	for _, goal := range []int{0, best - best/5, best, best + 1} {
		n, e = swaps.Fewest(s, goal)
		is("Fewest", n, e, fewestBy(all, goal))
	}
}

// checkMore compares what one more copy and one more change are said to be worth with what is seen of the plans of such a visit; it returns whether one of them is worth something.
func checkMore(t *testing.T, s api.Swap, draw *rand.Rand, best int) bool {
	t.Helper()
	change := bestBy(look(with(s, func(s *api.Swap) { s.Changes++ }))) - best
	if n, e := swaps.Change(s); n != change || e != api.OK {
		t.Errorf("Change of %v = %d, %d, not %d", s, n, e, change)
	}
	if len(s.Stock) == 0 {
		return change > 0
	}
	title := draw.IntN(len(s.Stock))
	more := bestBy(look(with(s, func(s *api.Swap) { s.Stock[title]++ }))) - best
	if n, e := swaps.Copy(s, title); n != more || e != api.OK {
		t.Errorf("Copy of %v, %d = %d, %d, not %d", s, title, n, e, more)
	}
	return change > 0 || more > 0
}

// P7.4 to P7.10: all functions say what is seen of all plans, each of them laid out.
func TestAllPlans(t *testing.T) {
	for _, x := range []struct {
		l     limits
		count int
	}{{few, 1500}, {scarce, 500}, {full, 150}} {
		moved, equal, worth := 0, 0, 0
		for s, draw := range drawn(x.count, x.l) {
			all := look(s)
			best := bestBy(all)
			checkPlans(t, s, all)
			if checkMore(t, s, draw, best) {
				worth++
			}
			if best > sum(earnsBy(s, s.Boxes)) {
				moved++
			}
			if len(alwaysBy(s, all)) < len(slices.Concat(s.Boxes...)) {
				equal++
			}
		}
		if moved < x.count/5 || x.l == few && equal < x.count/10 || worth < x.count/15 {
			t.Errorf("of %d visits only %d move something, %d have equal plans, to %d one more copy or change is worth something", x.count, moved, equal, worth)
		}
	}
}

// P7.2, P7.3: Fits and Earns say what is seen of plans, also of those that do not fit.
func TestFitsAndEarns(t *testing.T) {
	for _, l := range []limits{few, scarce, full} {
		fit, unfit := 0, 0
		for s, draw := range drawn(200, l) {
			plans := [][][]int{s.Boxes}
			for range 20 {
				plans = append(plans, drawPlan(draw, s))
			}
			if l == few {
				plans = allPlans(s)
			}
			for _, plan := range plans {
				want := fitsBy(s, plan)
				if want {
					fit++
				} else {
					unfit++
				}
				if fits, e := swaps.Fits(s, plan); fits != want || e != api.OK {
					t.Errorf("Fits of %v, %v = %t, %d", s, plan, fits, e)
				}
				boxes, all, e := swaps.Earns(s, plan)
				if cents := earnsBy(s, plan); !slices.Equal(boxes, cents) || all != sum(cents) || e != api.OK {
					t.Errorf("Earns of %v, %v = %v, %d, %d, not %v", s, plan, boxes, all, e, cents)
				}
			}
		}
		if fit < 200 || unfit < 200 {
			t.Errorf("only %d plans fit, %d do not", fit, unfit)
		}
	}
}
