package wear_test

import (
	"fmt"
	"math"
	"slices"
	"testing"

	"shellac/api"
	"shellac/wear"
)

// answers returns all that the functions say of arguments, as one text.
func answers(w api.Wear, plan []api.WearWeek, budget int) string {
	worn, age, cost, runError := wear.Run(w, plan)
	good, week, goodError := wear.Good(w, plan)
	text := fmt.Sprint(wear.Check(w), worn, age, cost, runError, good, week, goodError)
	for _, of := range []func(api.Wear) (int, api.Errno){
		wear.Cheapest, wear.Needles, wear.Records, wear.Worth,
		func(w api.Wear) (int, api.Errno) { return wear.Last(w, budget) },
	} {
		n, e := of(w)
		text += fmt.Sprint(";", n, e)
	}
	// which plan is returned is free, but not its length, nor whether there is one
	best, e := wear.Plan(w)
	return text + fmt.Sprint(";", len(best), e)
}

// P1: every function returns, whatever it is given.
func TestAnyArguments(t *testing.T) {
	numbers := []int{0, 1, -1, 6, 7, api.MaxBudget, api.MaxBudget + 1, math.MaxInt, math.MinInt}
	huge := newRecord(math.MaxInt, math.MinInt, math.MaxInt, math.MaxInt, math.MinInt)
	wild := []api.Wear{
		newBox(math.MinInt, math.MinInt, math.MinInt, math.MinInt, []int{math.MinInt}, huge),
		newBox(math.MaxInt, math.MaxInt, math.MaxInt, math.MaxInt, []int{math.MaxInt}, huge),
		newBox(2, math.MaxInt, math.MaxInt, 0, nil, huge, huge, huge, huge, huge),
		newBox(6, 0, 0, 1, make([]int, 1000), make([]api.WearRecord, 1000)...),
	}
	for _, w := range slices.Concat(validBoxes(), invalidBoxes(), wild) {
		for _, plan := range append(badPlans(), planP(), []api.WearWeek{in(1, 0), in(0)}) {
			answers(w, plan, 0)
		}
		for _, n := range numbers {
			answers(w, []api.WearWeek{in(n, n), in(0, 0, n)}, n)
			answers(w, make([]api.WearWeek, 6), n)
		}
	}
}

// P1: the greatest boxes are done in time.
func TestGreatestArguments(t *testing.T) {
	w := widest()
	checkBest(t, w, 4*999, 0, 4, 0)
	for i := range w.Records {
		w.Records[i].Limit = 99 * 99
	}
	// in a week the old needle wears each record just up to its limit; a new one is good for nearly three weeks
	w.Rough = []int{1, 1, 1, 1, 1, 1, 1, 99}
	w.Step = 3 * 99 * 4 / 7
	checkGood(t, w, thriftyGood(w))
	for _, budget := range []int{0, 999, 4 * 999, 5 * 999, api.MaxBudget} {
		if n := last(t, w, budget); n != lastBy(w, budget, thriftyGood) {
			t.Errorf("Last of %d = %d", budget, n)
		}
	}
}

// R3: nil and empty lists are the same.
func TestNilAndEmpty(t *testing.T) {
	a := newBox(2, 7, 3, 4, []int{1})
	b := newBox(2, 7, 3, 4, []int{1})
	b.Records = []api.WearRecord{}
	empty := []api.WearWeek{{Records: []int{}}, {Needle: 1, Records: []int{}}}
	if x, y := answers(a, []api.WearWeek{in(0), {Needle: 1}}, 5), answers(b, empty, 5); x != y {
		t.Errorf("nil: %s; empty: %s", x, y)
	}
	a, b = newBox(0, 7, 3, 4, []int{1}, newRecord(1, 2, 3)), newBox(0, 7, 3, 4, []int{1}, newRecord(1, 2, 3))
	a.Records[0].Plays, b.Records[0].Plays = nil, []int{}
	if x, y := answers(a, nil, 5), answers(b, []api.WearWeek{}, 5); x != y {
		t.Errorf("nil: %s; empty: %s", x, y)
	}
	a.Rough, b.Rough = nil, []int{}
	if x, y := answers(a, nil, 5), answers(b, nil, 5); x != y {
		t.Errorf("nil: %s; empty: %s", x, y)
	}
}

// padded returns a list with spare memory behind it, and all of the memory.
func padded[T any](list []T, pad T) (part, all []T) {
	all = append(slices.Clone(list), pad, pad, pad)
	return all[:len(list)], all
}

// R4: no argument is changed, nor the memory behind it.
func TestArgumentsStay(t *testing.T) {
	for w, draw := range drawn(60, many) {
		plan, allWeeks := padded(drawPlan(draw, w, 2), in(1, 77))
		var memory [][]int
		keep := func(list []int) []int {
			part, all := padded(list, 77)
			memory = append(memory, all)
			return part
		}
		for week := range plan {
			plan[week].Records = keep(plan[week].Records)
		}
		x := copied(w)
		x.Rough = keep(x.Rough)
		for i := range x.Records {
			x.Records[i].Plays = keep(x.Records[i].Plays)
		}
		r, allRecords := padded(x.Records, newRecord(77, 77, 77, 77))
		x.Records = r
		text := fmt.Sprint(allWeeks, memory, allRecords)
		for _, budget := range []int{0, 50, api.MaxBudget} {
			answers(x, plan, budget)
		}
		worn, _, _, _ := wear.Run(x, plan)
		spoil(worn)
		best, _ := wear.Plan(x)
		spoilPlan(best)
		if after := fmt.Sprint(allWeeks, memory, allRecords); after != text {
			t.Errorf("changed from %s to %s", text, after)
		}
	}
}

// spoil writes over a list, and over the memory behind it.
func spoil(list []int) {
	list = list[:cap(list)]
	for i := range list {
		list[i] = 99
	}
}

// spoilPlan writes over a plan.
func spoilPlan(plan []api.WearWeek) {
	for week := range plan {
		spoil(plan[week].Records)
		plan[week] = in(99, 99)
	}
}

// R4: a result is new memory each time, and no two weeks of a plan share any.
func TestResultsAreNew(t *testing.T) {
	w := newBox(3, 1, 0, 9, []int{1}, newRecord(0, 1, 7, 1, 1, 1), newRecord(1, 1, 7, 1, 1, 1))
	want := []api.WearWeek{in(0, 1), in(0, 0, 1), in(0, 0, 1)}
	for range 2 {
		plan, e := wear.Plan(w)
		if e != api.OK || fmt.Sprint(plan) != fmt.Sprint(want) {
			t.Fatalf("Plan = %v, %d", plan, e)
		}
		for week := range plan {
			before := fmt.Sprint(plan[week+1:])
			spoil(plan[week].Records)
			if after := fmt.Sprint(plan[week+1:]); after != before {
				t.Errorf("the weeks behind %d were %s, and are %s", week, before, after)
			}
		}
		spoilPlan(plan)
		worn, _, _, e := wear.Run(w, want)
		if e != api.OK || !slices.Equal(worn, []int{1, 1}) {
			t.Fatalf("Run = %v, %d", worn, e)
		}
		spoil(worn)
	}
}

// No state is kept: what was asked before changes no answer.
func TestNoState(t *testing.T) {
	a, b := answers(boxB(), planP(), 29), answers(limited(30), planP(), 29)
	if a == b {
		t.Errorf("two boxes answer the same: %s", a)
	}
	if again := answers(boxB(), planP(), 29); again != a {
		t.Errorf("first %s, then %s", a, again)
	}
}
