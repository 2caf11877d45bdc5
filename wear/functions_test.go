package wear_test

import (
	"math/rand/v2"
	"slices"
	"testing"

	"shellac/api"
	"shellac/wear"
)

// P3.2: the chapter's examples, and the edges: no weeks, no records, ages at and around the steps, and the order of the plays.
func TestRun(t *testing.T) {
	still := newBox(0, 9, 7, 3, []int{1, 2}, newRecord(5, 4, 6), newRecord(0, 0, 6))
	steps := func(age int) api.Wear {
		return newBox(1, 0, age, 10, []int{1, 20, 50}, newRecord(0, 0, 0, 1))
	}
	// both are played in each week: the record 0 first, with the sharper needle
	both := newBox(2, 7, 0, 3, []int{0, 1, 10}, newRecord(0, 99, 11, 3, 1), newRecord(0, 99, 13, 3, 2))
	for i, x := range []struct {
		w         api.Wear
		plan      []api.WearWeek
		worn      []int
		age, cost int
	}{
		{boxB(), nothing(boxB()), []int{80, 55}, 45, 0},
		{boxB(), planP(), []int{30, 35}, 15, 100},
		{boxB(), []api.WearWeek{in(0), in(0, 0), in(0, 0)}, []int{40, 55}, 45, 60},
		{boxB(), []api.WearWeek{in(1, 0, 1), in(1, 0, 1), in(1, 0, 1)}, []int{10, 10}, 15, 300},
		{boxB(), []api.WearWeek{in(0), in(0), in(0, 1)}, []int{80, 20}, 45, 20},
		{boxB(), []api.WearWeek{in(0), in(0, 0, 1), in(1)}, []int{40, 30}, 15, 100},
		{still, nil, []int{5, 0}, 7, 0},
		{newBox(2, 9, 7, 3, []int{1}), []api.WearWeek{in(0), in(0)}, nil, 7, 0},
		{newBox(2, 9, 7, 3, []int{1}), []api.WearWeek{in(1), in(1)}, nil, 0, 18},
		{steps(0), nothing(steps(0)), []int{1}, 1, 0},
		{steps(9), nothing(steps(9)), []int{1}, 10, 0},
		{steps(10), nothing(steps(10)), []int{20}, 11, 0},
		{steps(19), nothing(steps(19)), []int{20}, 20, 0},
		{steps(20), nothing(steps(20)), []int{50}, 21, 0},
		{steps(29), nothing(steps(29)), []int{50}, 30, 0},
		{steps(30), nothing(steps(30)), []int{50}, 31, 0},
		{steps(api.MaxAge), nothing(steps(0)), []int{50}, 10000, 0},
		{steps(api.MaxAge), []api.WearWeek{in(1)}, []int{1}, 1, 0},
		{both, nothing(both), []int{10, 23}, 9, 0},
		{both, []api.WearWeek{in(0), in(1)}, []int{0, 3}, 3, 7},
		{both, []api.WearWeek{in(0), in(0, 0)}, []int{10, 23}, 9, 11},
		{both, []api.WearWeek{in(0), in(0, 1)}, []int{10, 20}, 9, 13},
		{both, []api.WearWeek{in(1), in(0, 0, 1)}, []int{10, 20}, 9, 31},
		// nothing is played: a record keeps what it was worn, until it is replaced
		{newBox(2, 1, 5, 3, []int{9}, newRecord(4, 9, 2, 0, 0)), []api.WearWeek{in(0), in(0)}, []int{4}, 5, 0},
		{newBox(2, 1, 5, 3, []int{9}, newRecord(4, 9, 2, 0, 0)), []api.WearWeek{in(1), in(0, 0)}, []int{0}, 0, 3},
		{widest(), nothing(widest()), slices.Repeat([]int{api.MaxWorn + 6*99*99}, 4), api.MaxAge + 24*99, 0},
		{widest(), slices.Repeat([]api.WearWeek{in(1, 0, 1, 2, 3)}, 6), slices.Repeat([]int{99 * 99}, 4), 4 * 99, 30 * 999},
	} {
		worn, age, cost, e := wear.Run(x.w, x.plan)
		if !slices.Equal(worn, x.worn) || age != x.age || cost != x.cost || e != api.OK {
			t.Errorf("%d: Run = %v, %d, %d, %d", i, worn, age, cost, e)
		}
	}
}

// P3.3: the chapter's examples, a record that is worn just up to its limit or just above, and the first of several weeks.
func TestGood(t *testing.T) {
	level := func(limit int) api.Wear {
		return newBox(3, 0, 0, 99, []int{5}, newRecord(2, limit, 0, 1, 1, 1))
	}
	for i, x := range []struct {
		w    api.Wear
		plan []api.WearWeek
		week int
	}{
		{boxB(), nothing(boxB()), 2},
		{boxB(), planP(), -1},
		{boxB(), []api.WearWeek{in(0), in(0, 0), in(0)}, 2},
		{boxB(), []api.WearWeek{in(0), in(0), in(0, 0)}, -1},
		{boxB(), []api.WearWeek{in(0), in(0, 0), in(0, 0)}, -1},
		{limited(30), nothing(boxB()), 1},
		{limited(9), nothing(boxB()), 0},
		{level(17), nothing(level(0)), -1},
		{level(16), nothing(level(0)), 2},
		{level(12), nothing(level(0)), 2},
		{level(11), nothing(level(0)), 1},
		{level(7), nothing(level(0)), 1},
		{level(6), nothing(level(0)), 0},
		{level(6), []api.WearWeek{in(0, 0), in(0), in(0)}, 1},
		{level(6), []api.WearWeek{in(0, 0), in(0, 0), in(0, 0)}, -1},
		{level(5), []api.WearWeek{in(0, 0), in(0, 0), in(0, 0)}, -1},
		{level(4), []api.WearWeek{in(0, 0), in(0, 0), in(0, 0)}, 0},
		{level(0), nothing(level(0)), 0},
		// the record 1 is worn too much before the record 0
		{newBox(2, 0, 0, 9, []int{1}, newRecord(0, 1, 0, 1, 1), newRecord(0, 0, 0, 1, 0)), nothing(two()), 0},
		{newBox(2, 0, 0, 9, []int{1}, newRecord(0, 9, 0, 1, 1), newRecord(0, 1, 0, 1, 1)), nothing(two()), 1},
		// worn too much from the beginning, though it is not played
		{newBox(2, 0, 0, 9, []int{1}, newRecord(9, 8, 0, 0, 0)), nothing(two()), 0},
		{newBox(2, 0, 0, 9, []int{1}, newRecord(9, 8, 0, 0, 0)), []api.WearWeek{in(0, 0), in(0)}, -1},
		{newBox(2, 0, 0, 9, []int{1}, newRecord(9, 8, 0, 0, 0)), []api.WearWeek{in(0), in(0, 0)}, 0},
		{newBox(0, 0, 0, 9, []int{1}, newRecord(9, 8, 0)), nil, -1},
		{newBox(2, 0, 0, 9, []int{1}), nothing(two()), -1},
		{widest(), nothing(widest()), 0},
		{widest(), append([]api.WearWeek{in(0, 0, 1, 2, 3)}, make([]api.WearWeek, 5)...), -1},
	} {
		good, week, e := wear.Good(x.w, x.plan)
		if good != (x.week < 0) || week != x.week || e != api.OK {
			t.Errorf("%d: Good = %t, %d, %d", i, good, week, e)
		}
	}
}

// P3.2, P3.3: Run and Good say what is seen of the second box, whatever is replaced.
func TestPlayByPlay(t *testing.T) {
	for _, m := range []limits{few, many, full} {
		for w, draw := range drawn(300, m) {
			for chances := range 5 {
				plan := drawPlan(draw, w, chances)
				l := live(w, plan)
				worn, age, cost, e := wear.Run(w, plan)
				if !slices.Equal(worn, l.worn) || age != l.age || cost != l.cost || e != api.OK {
					t.Errorf("Run of %v, %v = %v, %d, %d, %d, not %v", w, plan, worn, age, cost, e, l)
				}
				good, week, e := wear.Good(w, plan)
				if good != (l.bad < 0) || week != l.bad || e != api.OK {
					t.Errorf("Good of %v, %v = %t, %d, %d, not %v", w, plan, good, week, e, l)
				}
			}
		}
	}
}

// is reports a result that is not the wanted one, or that is there though none is wanted.
func is(t *testing.T, name string, w api.Wear, n int, e api.Errno, want int) {
	t.Helper()
	if want == none && (n != 0 || e != api.ErrNone) || want != none && (n != want || e != api.OK) {
		t.Errorf("%s of %v = %d, %d, not %d", name, w, n, e, want)
	}
}

// checkBest compares all that is said of good plans with numbers, or none.
func checkBest(t *testing.T, w api.Wear, cheapest, needles, records, worth int) {
	t.Helper()
	n, e := wear.Cheapest(w)
	is(t, "Cheapest", w, n, e, cheapest)
	n, e = wear.Needles(w)
	is(t, "Needles", w, n, e, needles)
	n, e = wear.Records(w)
	is(t, "Records", w, n, e, records)
	n, e = wear.Worth(w)
	is(t, "Worth", w, n, e, worth)
	checkPlan(t, w, cheapest)
}

// checkPlan reports a Plan that is not good, or does not cost as much as it should; any such plan will do.
func checkPlan(t *testing.T, w api.Wear, cost int) {
	t.Helper()
	plan, e := wear.Plan(w)
	if cost == none {
		if e != api.ErrNone || len(plan) > 0 {
			t.Errorf("Plan of %v = %v, %d", w, plan, e)
		}
		return
	}
	if e != api.OK || !isPlanOf(w, plan) {
		t.Errorf("Plan of %v = %v, %d", w, plan, e)
		return
	}
	if l := live(w, plan); l.bad >= 0 || l.cost != cost {
		t.Errorf("Plan of %v = %v: %v, not %d", w, plan, l, cost)
	}
}

// P3.4 to P3.7: the chapter's examples, and the edges.
func TestBest(t *testing.T) {
	// a new needle does not wear at all, an old one too much
	silk := func(price, records int, r api.WearRecord) api.Wear {
		return newBox(2, price, 5, 5, []int{0, 9}, slices.Repeat([]api.WearRecord{r}, records)...)
	}
	// B with another price of its record 0
	priced := func(price int) api.Wear {
		w := boxB()
		w.Records[0].Price = price
		return w
	}
	for i, x := range []struct {
		w                                 api.Wear
		cheapest, needles, records, worth int
	}{
		{boxB(), 30, 0, 0, 15},
		{limited(30), 80, 1, 0, api.MaxPrice},
		{limited(9), none, none, none, none},
		{newBox(0, 5, 0, 1, []int{0}), 0, 0, 0, none},
		{newBox(0, 5, 0, 1, []int{0}, newRecord(9, 0, 7)), 0, 0, 0, none},
		{newBox(3, 5, 0, 1, []int{0}), 0, 0, 0, 0},
		{newBox(3, 0, 0, 1, []int{0}), 0, 0, 0, 0},
		{newBox(2, 5, 0, 9, []int{1}, newRecord(0, 4, 7, 2, 2)), 0, 0, 0, 0},
		{newBox(2, 5, 0, 9, []int{1}, newRecord(0, 3, 7, 2, 2)), 7, 0, 1, 0},
		{newBox(2, 5, 0, 9, []int{1}, newRecord(0, 2, 7, 2, 2)), 7, 0, 1, 0},
		{newBox(2, 5, 0, 9, []int{1}, newRecord(1, 2, 7, 2, 2)), 14, 0, 2, 0},
		{newBox(2, 5, 0, 9, []int{1}, newRecord(0, 1, 7, 2, 2)), none, none, none, none},
		// a record that is not played, but worn too much, must be replaced once, and in the first week
		{newBox(6, 5, 0, 9, []int{1}, newRecord(9, 8, 7, 0, 0, 0, 0, 0, 0)), 7, 0, 1, 0},
		{newBox(6, 5, 0, 9, []int{1}, newRecord(8, 8, 7, 0, 0, 0, 0, 0, 0)), 0, 0, 0, 0},
		// no record lasts with the old needle: the needle is worth each price
		{silk(5, 1, newRecord(0, 8, 7, 1, 1)), 5, 1, 0, api.MaxPrice},
		{silk(0, 1, newRecord(0, 8, 7, 1, 1)), 0, 1, 0, api.MaxPrice},
		// with the limit 9 the old needle is good for a week, and the record is replaced once
		{silk(5, 1, newRecord(0, 9, 7, 1, 1)), 5, 0, 0, 7},
		{silk(7, 1, newRecord(0, 9, 7, 1, 1)), 7, 0, 0, 7},
		{silk(9, 1, newRecord(0, 9, 7, 1, 1)), 7, 0, 0, 7},
		{silk(9, 1, newRecord(1, 9, 7, 1, 1)), 9, 0, 0, 14},
		{silk(9, 2, newRecord(1, 9, 999, 1, 1)), 9, 0, 0, 999},
		{silk(9, 1, newRecord(1, 9, 499, 1, 1)), 9, 0, 0, 998},
		{silk(9, 1, newRecord(1, 9, 500, 1, 1)), 9, 0, 0, 999},
		{silk(0, 1, newRecord(0, 9, 0, 1, 1)), 0, 0, 0, 0},
		// the new needle is worn before the first week is over
		{newBox(2, 0, 1, 1, []int{0, 9}, newRecord(0, 9, 7, 2, 2)), 7, 2, 1, api.MaxPrice},
		{newBox(2, 9, 2, 2, []int{0, 5}, newRecord(0, 5, 7, 2, 2), newRecord(3, 5, 7, 1, 1)), 32, 2, 2, api.MaxPrice},
		// two needles save a record: half of its price, rounded down
		{priced(31), 31, 0, 0, 15},
		{priced(33), 33, 0, 0, 16},
		{priced(0), 0, 0, 0, 0},
		{priced(1), 1, 0, 0, 0},
		{priced(2), 2, 0, 0, 1},
		// the cheapest plan replaces more than others do
		{newBox(3, 50, 0, 1, []int{1}, newRecord(0, 1, 0, 1, 1, 1), newRecord(0, 2, 1, 1, 1, 1)), 1, 0, 3, 0},
	} {
		checkBest(t, x.w, x.cheapest, x.needles, x.records, x.worth)
		if all := allGood(x.w); leastCost(all, x.w.Price) != x.cheapest || worthBy(all) != x.worth {
			t.Errorf("%d: the second box says %d and %d", i, leastCost(all, x.w.Price), worthBy(all))
		}
	}
}

// P3.5: the only good plans of the least cost.
func TestPlan(t *testing.T) {
	same := func(a, b api.WearWeek) bool { return a.Needle == b.Needle && slices.Equal(a.Records, b.Records) }
	for i, x := range []struct {
		w    api.Wear
		want []api.WearWeek
	}{
		{newBox(0, 1, 0, 1, []int{0}, newRecord(9, 0, 7)), nil},
		{newBox(1, 1, 0, 9, []int{0}, newRecord(9, 0, 7, 0)), []api.WearWeek{in(0, 0)}},
		{newBox(2, 1, 0, 9, []int{2}, newRecord(0, 9, 7, 1, 1), newRecord(1, 2, 7, 1, 1)), []api.WearWeek{in(0, 1), in(0, 1)}},
		{newBox(3, 1, 0, 9, []int{1}, newRecord(0, 5, 7, 5, 3, 2), newRecord(0, 4, 7, 2, 2, 4)), []api.WearWeek{in(0), in(0, 0), in(0, 1)}},
		{newBox(2, 1, 0, 1, []int{0, 9}, newRecord(0, 8, 7, 1, 1)), []api.WearWeek{in(0), in(1)}},
		{newBox(2, 1, 0, 1, []int{0, 9}, newRecord(9, 8, 7, 1, 1)), []api.WearWeek{in(0, 0), in(1)}},
		{newBox(2, 1, 1, 1, []int{0, 9}, newRecord(0, 8, 7, 1, 1), newRecord(0, 0, 7, 0, 0)), []api.WearWeek{in(1), in(1)}},
	} {
		plan, e := wear.Plan(x.w)
		if !slices.EqualFunc(plan, x.want, same) || e != api.OK {
			t.Errorf("%d: Plan = %v, %d", i, plan, e)
		}
	}
}

// P3.8: the chapter's examples, budgets around each cost, and boxes of which no plan is good.
func TestLast(t *testing.T) {
	for i, x := range []struct {
		w            api.Wear
		budget, want int
	}{
		{boxB(), 0, 2},
		{boxB(), 29, 2},
		{boxB(), 30, 3},
		{boxB(), 31, 3},
		{boxB(), api.MaxBudget, 3},
		{limited(30), 0, 1},
		{limited(30), 29, 1},
		{limited(30), 30, 2},
		{limited(30), 79, 2},
		{limited(30), 80, 3},
		{limited(9), 0, 0},
		{limited(9), api.MaxBudget, 0},
		// the first week is good, the second one cannot be, whatever is paid
		{newBox(3, 0, 0, 9, []int{1}, newRecord(0, 1, 0, 1, 2, 0)), api.MaxBudget, 1},
		{newBox(3, 0, 0, 9, []int{1}, newRecord(0, 1, 7, 1, 1, 1)), 6, 1},
		{newBox(3, 0, 0, 9, []int{1}, newRecord(0, 1, 7, 1, 1, 1)), 7, 2},
		{newBox(3, 0, 0, 9, []int{1}, newRecord(0, 1, 7, 1, 1, 1)), 13, 2},
		{newBox(3, 0, 0, 9, []int{1}, newRecord(0, 1, 7, 1, 1, 1)), 14, 3},
		{newBox(2, 0, 0, 9, []int{1}, newRecord(2, 1, 7, 0, 0)), 6, 0},
		{newBox(2, 0, 0, 9, []int{1}, newRecord(2, 1, 7, 0, 0)), 7, 2},
		{newBox(0, 0, 0, 9, []int{1}, newRecord(2, 1, 7)), 0, 0},
		{newBox(6, 9, 0, 9, []int{1}), 0, 6},
		{widest(), 4*999 - 1, 0},
		{widest(), 4 * 999, 6},
	} {
		if n, e := wear.Last(x.w, x.budget); n != x.want || e != api.OK {
			t.Errorf("%d: Last of %d = %d, %d", i, x.budget, n, e)
		}
	}
}

// checkGood compares all that is said of good plans with what is replaced in them.
func checkGood(t *testing.T, w api.Wear, all map[replaced]bool) {
	t.Helper()
	needles := least(all, func(x replaced) int { return x.needles })
	records := least(all, func(x replaced) int { return x.records })
	checkBest(t, w, leastCost(all, w.Price), needles, records, worthBy(all))
}

// checkLast compares Last with the numbers of weeks, each of them tried, for budgets around the least cost and below it.
func checkLast(t *testing.T, w api.Wear, draw *rand.Rand, good func(api.Wear) map[replaced]bool) {
	t.Helper()
	cost := max(0, leastCost(good(w), w.Price))
	for _, budget := range []int{0, cost, max(0, cost-1), draw.IntN(cost + 1), api.MaxBudget} {
		if n, e := wear.Last(w, budget); n != lastBy(w, budget, good) || e != api.OK {
			t.Errorf("Last of %v, %d = %d, %d, not %d", w, budget, n, e, lastBy(w, budget, good))
		}
	}
}

// P3.4 to P3.9: no plan of a small box is better, each of them tried.
func TestAllPlans(t *testing.T) {
	for w, draw := range drawn(600, few) {
		checkGood(t, w, allGood(w))
		checkLast(t, w, draw, allGood)
	}
	for w := range drawn(150, many) {
		if bits(w) <= 14 {
			checkGood(t, w, allGood(w))
		}
	}
}

// P3.4 to P3.9: no plan of a large box is better, all choices of needles and all weeks of each record tried.
func TestAllChoices(t *testing.T) {
	for w, draw := range drawn(400, many) {
		checkGood(t, w, thriftyGood(w))
		checkLast(t, w, draw, thriftyGood)
	}
	for w := range drawn(10, full) {
		checkGood(t, w, thriftyGood(w))
	}
}

// The second box says the same if all plans are tried, or all weeks of each record.
func TestSecondBox(t *testing.T) {
	for w := range drawn(200, few) {
		a, b := allGood(w), thriftyGood(w)
		for _, price := range []int{0, 1, 7, w.Price, api.MaxPrice} {
			if leastCost(a, price) != leastCost(b, price) {
				t.Errorf("of %v: %d and %d", w, leastCost(a, price), leastCost(b, price))
			}
		}
		if worthBy(a) != worthBy(b) {
			t.Errorf("of %v: %d and %d", w, worthBy(a), worthBy(b))
		}
	}
}
