package swaps_test

import (
	"math"
	"slices"
	"testing"

	"shellac/api"
	"shellac/swaps"
)

// ordinary is an ordinary visit: two boxes with different numbers of titles, one of which stays.
func ordinary() api.Swap {
	s := newVisit(2, []int{1, 0, 2, 0}, [][]int{{5, 9}, {4, 1}, {6, 3}, {7, 8}}, []int{0, 1}, []int{3})
	s.Keeps = []api.SwapKeep{keep(0, 1)}
	return s
}

func validVisits() []api.Swap {
	return []api.Swap{
		visitS(), ordinary(), widest(), {}, {Changes: api.MaxSlots},
		newVisit(0, []int{}, [][]int{}, []int{}),
		newVisit(3, nil, nil, nil, nil, nil),
		newVisit(1, []int{0}, [][]int{{}}),
		newVisit(1, make([]int, api.MaxTitles), make([][]int, api.MaxTitles)),
		newVisit(1, []int{0}, [][]int{{0, 0, api.MaxEarn}}, []int{0}, nil, []int{0}),
		oneBox(0, []int{0, 2, 5}, 1, 2, 3, 4, 5, 6),
		with(ordinary(), func(s *api.Swap) { s.Stock = []int{0, 0, 0, 0} }),
		with(ordinary(), func(s *api.Swap) { s.Keeps = nil }),
		with(ordinary(), func(s *api.Swap) { s.Keeps = []api.SwapKeep{keep(1, 3), keep(0, 0), keep(0, 1)} }),
		with(ordinary(), func(s *api.Swap) { s.Keeps = slices.Repeat([]api.SwapKeep{keep(0, 1)}, api.MaxKeeps) }),
		with(ordinary(), func(s *api.Swap) { s.Changes = 0 }),
		with(ordinary(), func(s *api.Swap) { s.Changes = api.MaxSlots }),
	}
}

func invalidVisits() []api.Swap {
	l := []api.Swap{
		// too much, or too little, of something
		newVisit(1, nil, nil, nil, nil, nil, nil),
		newVisit(1, []int{0}, [][]int{{1, 1, 1, 1}}, nil, nil, nil, []int{0}),
		oneBox(1, []int{0, 1, 2, 3}, 1, 1, 1, 1),
		oneBox(1, []int{0}, 1, 1, 1, 1, 1, 1, 1),
		newVisit(1, make([]int, 7), make([][]int, 7)),
		newVisit(1, make([]int, 1000), make([][]int, 1000), make([][]int, 1000)...),
		with(ordinary(), func(s *api.Swap) { s.Keeps = slices.Repeat([]api.SwapKeep{keep(0, 1)}, api.MaxKeeps+1) }),
		with(ordinary(), func(s *api.Swap) { s.Keeps = make([]api.SwapKeep, 1000) }),
		with(ordinary(), func(s *api.Swap) { s.Earn = nil }),
		with(ordinary(), func(s *api.Swap) { s.Earn = s.Earn[:3] }),
		with(ordinary(), func(s *api.Swap) { s.Earn = append(s.Earn, []int{1, 2}) }),
		with(ordinary(), func(s *api.Swap) { s.Earn[0] = nil }),
		with(ordinary(), func(s *api.Swap) { s.Earn[3] = []int{1} }),
		with(ordinary(), func(s *api.Swap) { s.Earn[3] = []int{1, 2, 3} }),
		with(ordinary(), func(s *api.Swap) { s.Boxes = append(s.Boxes, nil) }),
		with(ordinary(), func(s *api.Swap) { s.Boxes, s.Keeps = nil, nil }),
		newVisit(1, nil, [][]int{nil}),
		newVisit(1, []int{0}, nil),
		// titles that are not ascending, or there twice
		with(ordinary(), func(s *api.Swap) { s.Boxes[0] = []int{1, 0} }),
		with(ordinary(), func(s *api.Swap) { s.Boxes[0] = []int{1, 1} }),
		with(ordinary(), func(s *api.Swap) { s.Boxes[1] = []int{0, 3, 2} }),
		with(ordinary(), func(s *api.Swap) { s.Boxes[1] = []int{0, 2, 2} }),
		newVisit(1, nil, nil, []int{0}),
		// titles that stay, but are in no box, or in another one
		with(ordinary(), func(s *api.Swap) { s.Keeps[0].Title = 3 }),
		with(ordinary(), func(s *api.Swap) { s.Keeps[0].Title = 2 }),
		with(ordinary(), func(s *api.Swap) { s.Keeps[0].Box = 1 }),
		with(ordinary(), func(s *api.Swap) { s.Keeps = append(s.Keeps, keep(1, 0)) }),
		with(ordinary(), func(s *api.Swap) { s.Keeps[0].Box = 2 }),
		{Keeps: []api.SwapKeep{{}}},
	}
	for _, n := range []int{-1, math.MinInt, 4, math.MaxInt} {
		l = append(l,
			with(ordinary(), func(s *api.Swap) { s.Boxes[0] = []int{0, 1, n} }),
			with(ordinary(), func(s *api.Swap) { s.Boxes[1][0] = n }),
			with(ordinary(), func(s *api.Swap) { s.Keeps[0].Title = n }),
			with(ordinary(), func(s *api.Swap) { s.Keeps[0].Box = n }),
			with(ordinary(), func(s *api.Swap) { s.Changes = n }))
	}
	for _, n := range []int{-1, math.MinInt, api.MaxStock + 1, math.MaxInt} {
		l = append(l,
			with(ordinary(), func(s *api.Swap) { s.Stock[0] = n }),
			with(ordinary(), func(s *api.Swap) { s.Stock[3] = n }))
	}
	for _, n := range []int{-1, math.MinInt, api.MaxEarn + 1, math.MaxInt} {
		l = append(l,
			with(ordinary(), func(s *api.Swap) { s.Earn[0][0] = n }),
			with(ordinary(), func(s *api.Swap) { s.Earn[3][1] = n }))
	}
	return l
}

// badPlans are plans that are none of the ordinary visit.
func badPlans() [][][]int {
	l := [][][]int{
		nil, {}, {{0, 1}}, {{0, 1}, {3}, nil}, {{0, 1}, {3}, {2}}, make([][]int, 2), make([][]int, 1000),
		{{0}, {3}}, {{0, 1, 2}, {3}}, {{0, 1}, nil}, {{0, 1}, {2, 3}}, {{0}, {1, 3}}, {{3}, {0, 1}}, {make([]int, 1000), {3}},
		{{1, 0}, {3}}, {{0, 0}, {3}}, {{3, 3}, {3}}, {{3, 2}, {0}},
	}
	for _, n := range []int{-1, math.MinInt, 4, math.MaxInt} {
		l = append(l, [][]int{{0, n}, {3}}, [][]int{{n, 1}, {3}}, [][]int{{0, 1}, {n}})
	}
	return l
}

// outside are numbers that are never those of a title.
func outside() []int { return []int{-1, math.MinInt, api.MaxTitles, math.MaxInt} }

// badGoals are numbers that are no goals.
func badGoals() []int { return []int{-1, math.MinInt, api.MaxGoal + 1, math.MaxInt} }

// answer is the error of a function, and whether all its other results are zero values.
type answer struct {
	e    api.Errno
	zero bool
}

// ofPlan asks the functions that are given a plan.
func ofPlan(s api.Swap, plan [][]int) map[string]answer {
	fits, e := swaps.Fits(s, plan)
	boxes, all, f := swaps.Earns(s, plan)
	return map[string]answer{"Fits": {e, !fits}, "Earns": {f, len(boxes) == 0 && all == 0}}
}

// ofVisit asks the functions that are given the visit alone.
func ofVisit(s api.Swap) map[string]answer {
	best, e := swaps.Best(s)
	plan, f := swaps.Plan(s)
	always, g := swaps.Always(s)
	fair, h := swaps.Fair(s)
	change, i := swaps.Change(s)
	return map[string]answer{
		"Best": {e, best == 0}, "Plan": {f, len(plan) == 0}, "Always": {g, len(always) == 0},
		"Fair": {h, fair == 0}, "Change": {i, change == 0},
	}
}

// ofNumbers asks the functions that are given a title, or a goal.
func ofNumbers(s api.Swap, title, goal int) map[string]answer {
	more, e := swaps.Copy(s, title)
	fewest, f := swaps.Fewest(s, goal)
	return map[string]answer{"Copy": {e, more == 0}, "Fewest": {f, fewest == 0}}
}

// checkNone reports an answer that has not the error, or that says something nevertheless.
func checkNone(t *testing.T, i int, asked any, all map[string]answer, want api.Errno) {
	t.Helper()
	for name, a := range all {
		if a.e != want || !a.zero {
			t.Errorf("%d, %v: %s: %d, zero: %t; not %d", i, asked, name, a.e, a.zero, want)
		}
	}
}

// P7.1: which visits are valid.
func TestCheck(t *testing.T) {
	for i, s := range validVisits() {
		if e := swaps.Check(s); e != api.OK {
			t.Errorf("valid visit %d: Check = %d", i, e)
		}
	}
	for i, s := range invalidVisits() {
		if e := swaps.Check(s); e != api.ErrSwap {
			t.Errorf("invalid visit %d: Check = %d", i, e)
		}
	}
	for s := range drawn(500, full) {
		if e := swaps.Check(s); e != api.OK {
			t.Errorf("Check of %v = %d", s, e)
		}
	}
}

// P7.1, R1, R2: an invalid visit comes before an argument that is none of it, and before ErrNone; nothing else is said of it.
func TestInvalidVisitComesFirst(t *testing.T) {
	for i, s := range invalidVisits() {
		checkNone(t, i, nil, ofVisit(s), api.ErrSwap)
		for _, plan := range append(badPlans(), s.Boxes, [][]int{{0, 1}, {3}}) {
			checkNone(t, i, plan, ofPlan(s, plan), api.ErrSwap)
		}
		for _, n := range slices.Concat(outside(), badGoals(), []int{0, 1, api.MaxGoal}) {
			checkNone(t, i, n, ofNumbers(s, n, n), api.ErrSwap)
		}
	}
}

// P7.2, P7.3: the plans that are none of a visit, and those that just are.
func TestPlanArguments(t *testing.T) {
	for i, plan := range badPlans() {
		checkNone(t, i, plan, ofPlan(ordinary(), plan), api.ErrArg)
	}
	for i, x := range []struct {
		s    api.Swap
		plan [][]int
		want api.Errno
	}{
		{ordinary(), [][]int{{0, 1}, {3}}, api.OK},
		{ordinary(), [][]int{{2, 3}, {3}}, api.OK},
		{ordinary(), [][]int{{0, 3}, {0}}, api.OK},
		{api.Swap{}, nil, api.OK},
		{api.Swap{}, [][]int{}, api.OK},
		{api.Swap{}, [][]int{nil}, api.ErrArg},
		{newVisit(0, nil, nil, nil), nil, api.ErrArg},
		{newVisit(0, nil, nil, nil), [][]int{nil}, api.OK},
		{newVisit(0, nil, nil, nil), [][]int{{}}, api.OK},
		{newVisit(0, nil, nil, nil), [][]int{{0}}, api.ErrArg},
		{newVisit(0, nil, nil, nil), [][]int{nil, nil}, api.ErrArg},
		{widest(), [][]int{{3, 4, 5}, {3, 4, 5}, {3, 4, 5}}, api.OK},
		{widest(), [][]int{{3, 4, 5}, {3, 4, 5}, {3, 4, 6}}, api.ErrArg},
		{widest(), [][]int{{3, 4, 5}, {3, 4, 5}, {3, 4, 4}}, api.ErrArg},
	} {
		for name, a := range ofPlan(x.s, x.plan) {
			if a.e != x.want {
				t.Errorf("%d: %s: %d", i, name, a.e)
			}
		}
	}
}

// P7.8, P7.9, R1: the titles and goals that are none, and those that just are; ErrArg comes before ErrNone.
func TestNumberArguments(t *testing.T) {
	for i, s := range validVisits() {
		for _, n := range append(outside(), len(s.Stock)) {
			checkNone(t, i, n, map[string]answer{"Copy": ofNumbers(s, n, 0)["Copy"]}, api.ErrArg)
		}
		for _, n := range badGoals() {
			checkNone(t, i, n, map[string]answer{"Fewest": ofNumbers(s, 0, n)["Fewest"]}, api.ErrArg)
		}
		for title := range s.Stock {
			for name, a := range ofNumbers(s, title, 0) {
				if a.e != api.OK {
					t.Errorf("%d: %s of %d: %d", i, name, title, a.e)
				}
			}
		}
		// nothing earns so much
		checkNone(t, i, api.MaxGoal, map[string]answer{"Fewest": ofNumbers(s, 0, api.MaxGoal)["Fewest"]}, api.ErrNone)
	}
}

// P7.4 to P7.7, P7.10: all is said of a valid visit; P7.7: Fair is ErrNone just if there are no boxes.
func TestValidVisit(t *testing.T) {
	for i, s := range validVisits() {
		for name, a := range ofVisit(s) {
			want := api.OK
			if name == "Fair" && len(s.Boxes) == 0 {
				want = api.ErrNone
			}
			if a.e != want || want != api.OK && !a.zero {
				t.Errorf("%d: %s: %d, zero: %t", i, name, a.e, a.zero)
			}
		}
	}
}
