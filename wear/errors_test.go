package wear_test

import (
	"math"
	"slices"
	"testing"

	"shellac/api"
	"shellac/wear"
)

// one is an ordinary record of a box with two weeks.
func one() api.WearRecord { return newRecord(1, 9, 5, 2, 3) }

// two is an ordinary box with two weeks and some records.
func two(records ...api.WearRecord) api.Wear {
	return newBox(2, 7, 3, 4, []int{1, 2}, records...)
}

// roughly is an ordinary box with other numbers Rough.
func roughly(rough ...int) api.Wear {
	w := two(one())
	w.Rough = rough
	return w
}

func validBoxes() []api.Wear {
	return []api.Wear{
		boxB(), limited(30), limited(9), widest(), two(), two(one()), two(one(), one(), one(), one()),
		newBox(0, 0, 0, 1, []int{0}),
		newBox(0, 0, 0, 1, []int{0}, newRecord(0, 0, 0), newRecord(9, 8, 7)),
		newBox(1, 0, 0, 1, []int{0}, newRecord(0, 0, 0, 0)),
		newBox(api.MaxWearWeeks, api.MaxPrice, api.MaxAge, api.MaxNeedle, []int{api.MaxGrind}),
		{Step: 1, Rough: []int{0}, Records: []api.WearRecord{{Plays: []int{}}}},
		roughly(0, 0, 0, 0, 0, 0, 0, api.MaxGrind),
		roughly(5, 5),
		two(newRecord(0, api.MaxWorn, 0, 0, api.MaxPlayed)),
		two(newRecord(api.MaxWorn, 0, api.MaxPrice, api.MaxPlayed, 0)),
	}
}

func invalidBoxes() []api.Wear {
	l := []api.Wear{
		{},
		roughly(),
		roughly(0, 0, 0, 0, 0, 0, 0, 0, 0),
		roughly(2, 1),
		roughly(1, 3, 2),
		roughly(1, 3, 0, 4),
		two(one(), one(), one(), one(), one()),
		two(newRecord(1, 9, 5)),
		two(newRecord(1, 9, 5, 2)),
		two(newRecord(1, 9, 5, 2, 3, 0)),
		two(one(), newRecord(1, 9, 5, 2, 3, 4)),
		newBox(0, 7, 3, 4, []int{1}, one()),
		newBox(api.MaxWearWeeks+1, 7, 3, 4, []int{1}, newRecord(1, 9, 5, make([]int, api.MaxWearWeeks+1)...)),
	}
	for _, n := range []int{-1, math.MinInt} {
		l = append(l, newBox(n, 7, 3, 4, []int{1}), roughly(n), roughly(n, 1))
	}
	for _, n := range []int{api.MaxWearWeeks + 1, math.MaxInt} {
		l = append(l, newBox(n, 7, 3, 4, []int{1}))
	}
	for _, n := range []int{api.MaxGrind + 1, math.MaxInt} {
		l = append(l, roughly(n), roughly(1, n))
	}
	for _, n := range []int{-1, math.MinInt, api.MaxPrice + 1, math.MaxInt} {
		l = append(l, newBox(2, n, 3, 4, []int{1}), two(newRecord(1, 9, n, 2, 3)), two(one(), newRecord(1, 9, n, 2, 3)))
	}
	for _, n := range []int{-1, math.MinInt, api.MaxAge + 1, math.MaxInt} {
		l = append(l, newBox(2, 7, n, 4, []int{1}))
	}
	for _, n := range []int{0, -1, math.MinInt, api.MaxNeedle + 1, math.MaxInt} {
		l = append(l, newBox(2, 7, 3, n, []int{1}))
	}
	for _, n := range []int{-1, math.MinInt, api.MaxWorn + 1, math.MaxInt} {
		l = append(l, two(newRecord(n, 9, 5, 2, 3)), two(newRecord(1, n, 5, 2, 3)), two(one(), newRecord(n, 9, 5, 2, 3)), two(one(), newRecord(1, n, 5, 2, 3)))
	}
	for _, n := range []int{-1, math.MinInt, api.MaxPlayed + 1, math.MaxInt} {
		l = append(l, two(newRecord(1, 9, 5, n, 3)), two(newRecord(1, 9, 5, 2, n)), two(one(), newRecord(1, 9, 5, 2, n)))
	}
	return l
}

// badPlans are plans that are none of a box with two weeks and two records.
func badPlans() [][]api.WearWeek {
	return [][]api.WearWeek{
		nil,
		{},
		{in(0)},
		{in(0), in(0), in(0)},
		make([]api.WearWeek, 1000),
		{in(-1), in(0)},
		{in(0), in(-1)},
		{in(2), in(0)},
		{in(0), in(2)},
		{in(0), in(math.MaxInt)},
		{in(math.MinInt), in(0)},
		{in(0, -1), in(0)},
		{in(0, -1, 0), in(0)},
		{in(0, 2), in(0)},
		{in(0), in(0, 0, 1, 2)},
		{in(0), in(1, 0, 2)},
		{in(0, 0, 0), in(0)},
		{in(0), in(0, 1, 1)},
		{in(0, 1, 0), in(0)},
		{in(0), in(0, math.MaxInt)},
		{in(0), in(0, math.MinInt)},
		{in(0), in(0, make([]int, 1000)...)},
	}
}

// badBudgets are numbers that are no budgets.
func badBudgets() []int { return []int{-1, math.MinInt, api.MaxBudget + 1, math.MaxInt} }

// answer is the error of a function, and whether all its other results are zero values.
type answer struct {
	e    api.Errno
	zero bool
}

// answersOf asks all functions but Check.
func answersOf(w api.Wear, plan []api.WearWeek, budget int) map[string]answer {
	all := map[string]answer{}
	worn, age, cost, e := wear.Run(w, plan)
	all["Run"] = answer{e, len(worn) == 0 && age == 0 && cost == 0}
	good, week, e := wear.Good(w, plan)
	all["Good"] = answer{e, !good && week == 0}
	best, e := wear.Plan(w)
	all["Plan"] = answer{e, len(best) == 0}
	for name, of := range map[string]func(api.Wear) (int, api.Errno){
		"Cheapest": wear.Cheapest,
		"Needles":  wear.Needles,
		"Records":  wear.Records,
		"Worth":    wear.Worth,
		"Last":     func(w api.Wear) (int, api.Errno) { return wear.Last(w, budget) },
	} {
		n, e := of(w)
		all[name] = answer{e, n == 0}
	}
	return all
}

// P3.1: which boxes are valid.
func TestCheck(t *testing.T) {
	for i, w := range validBoxes() {
		if e := wear.Check(w); e != api.OK {
			t.Errorf("valid box %d: Check = %d", i, e)
		}
	}
	for i, w := range invalidBoxes() {
		if e := wear.Check(w); e != api.ErrWear {
			t.Errorf("invalid box %d: Check = %d", i, e)
		}
	}
	for w := range drawn(300, full) {
		if e := wear.Check(w); e != api.OK {
			t.Errorf("Check of %v = %d", w, e)
		}
	}
}

// P3.1, R1, R2: an invalid box comes before an invalid argument, and before ErrNone; nothing else is said of it.
func TestInvalidBoxComesFirst(t *testing.T) {
	for i, w := range invalidBoxes() {
		plans := append(badPlans(), []api.WearWeek{in(0), in(0)})
		if w.Weeks >= 0 && w.Weeks < 10 {
			plans = append(plans, nothing(w))
		}
		for _, plan := range plans {
			for _, budget := range append(badBudgets(), 0, 9) {
				for name, a := range answersOf(w, plan, budget) {
					if a.e != api.ErrWear || !a.zero {
						t.Errorf("invalid box %d, %v, %d: %s: %d, zero: %t", i, plan, budget, name, a.e, a.zero)
					}
				}
			}
		}
	}
}

// P3.2, P3.3: the plans that are none of a box, and those that just are.
func TestPlanArguments(t *testing.T) {
	w := two(one(), one())
	for i, plan := range badPlans() {
		all := answersOf(w, plan, 0)
		for _, name := range []string{"Run", "Good"} {
			if (all[name] != answer{api.ErrArg, true}) {
				t.Errorf("%d: %s of %v: %v", i, name, plan, all[name])
			}
		}
	}
	for i, x := range []struct {
		w    api.Wear
		plan []api.WearWeek
		want api.Errno
	}{
		{w, []api.WearWeek{in(0), in(0)}, api.OK},
		{w, []api.WearWeek{in(1, 0, 1), in(1, 1)}, api.OK},
		{w, []api.WearWeek{{Records: []int{}}, {Needle: 1, Records: []int{}}}, api.OK},
		{two(), []api.WearWeek{in(1), in(0)}, api.OK},
		{two(), []api.WearWeek{in(1), in(0, 0)}, api.ErrArg},
		{two(one()), []api.WearWeek{in(1), in(0, 1)}, api.ErrArg},
		{newBox(0, 0, 0, 1, []int{0}), nil, api.OK},
		{newBox(0, 0, 0, 1, []int{0}), []api.WearWeek{}, api.OK},
		{newBox(0, 0, 0, 1, []int{0}), []api.WearWeek{in(0)}, api.ErrArg},
		{widest(), slices.Repeat([]api.WearWeek{in(1, 0, 1, 2, 3)}, api.MaxWearWeeks), api.OK},
		{widest(), slices.Repeat([]api.WearWeek{in(1, 0, 1, 2, 3, 4)}, api.MaxWearWeeks), api.ErrArg},
		{widest(), slices.Repeat([]api.WearWeek{in(1, 0, 1, 2, 3)}, api.MaxWearWeeks+1), api.ErrArg},
		// that no plan is good makes no difference
		{limited(9), planP(), api.OK},
		{limited(9), nil, api.ErrArg},
	} {
		_, _, _, e := wear.Run(x.w, x.plan)
		_, _, f := wear.Good(x.w, x.plan)
		if e != x.want || f != x.want {
			t.Errorf("%d: Run: %d; Good: %d", i, e, f)
		}
	}
}

// P3.8: the budgets that are none, and those that just are; also of a box of which no plan is good.
func TestBudgetArguments(t *testing.T) {
	for _, w := range validBoxes() {
		for _, budget := range badBudgets() {
			if n, e := wear.Last(w, budget); n != 0 || e != api.ErrArg {
				t.Errorf("Last of %v, %d = %d, %d", w, budget, n, e)
			}
		}
		for _, budget := range []int{0, 1, api.MaxBudget - 1, api.MaxBudget} {
			if _, e := wear.Last(w, budget); e != api.OK {
				t.Errorf("Last of %v, %d: %d", w, budget, e)
			}
		}
	}
}

// P3.4 to P3.7: ErrNone if no plan is good; Run, Good and Last have a result nevertheless.
func TestNoGoodPlan(t *testing.T) {
	for i, w := range []api.Wear{
		limited(9),
		limited(0),
		newBox(1, 0, 0, 1, []int{1}, newRecord(0, 0, 0, 1)),
		newBox(1, 0, 0, 99, []int{5}, newRecord(0, 99, 0, 1), newRecord(0, 9, 0, 2)),
		newBox(2, 0, 0, 99, []int{5}, newRecord(0, 10, 0, 0, 3)),
	} {
		for name, a := range answersOf(w, nothing(w), 0) {
			want := api.ErrNone
			switch name {
			case "Run", "Good", "Last":
				want = api.OK
			}
			if a.e != want || want != api.OK && !a.zero {
				t.Errorf("%d: %s: %d, zero: %t", i, name, a.e, a.zero)
			}
		}
	}
}

// P3.7: ErrNone if no needle can be replaced, for there are no weeks; all others have a result.
func TestNoWeeks(t *testing.T) {
	for i, w := range []api.Wear{
		newBox(0, 0, 0, 1, []int{0}),
		newBox(0, 5, 7, 3, []int{1, 2}, newRecord(9, 8, 7), newRecord(0, 0, 0)),
	} {
		for name, a := range answersOf(w, nil, 0) {
			want := api.OK
			if name == "Worth" {
				want = api.ErrNone
			}
			zero := name != "Good" && name != "Run"
			if a.e != want || zero && !a.zero {
				t.Errorf("%d: %s: %d, zero: %t", i, name, a.e, a.zero)
			}
		}
	}
}
