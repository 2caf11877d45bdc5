package wear_test

import (
	"math/rand/v2"
	"slices"
	"testing"

	"shellac/api"
	"shellac/wear"
)

// dear is said in place of a number if no plan is good: it is above all of them.
const dear = 1 << 30

// number returns the result of a call, or dear if there is none.
func number(t *testing.T, n int, e api.Errno) int {
	t.Helper()
	if e == api.ErrNone {
		return dear
	}
	if e != api.OK {
		t.Errorf("error %d", e)
	}
	return n
}

func cheapest(t *testing.T, w api.Wear) int {
	t.Helper()
	n, e := wear.Cheapest(w)
	return number(t, n, e)
}

func needles(t *testing.T, w api.Wear) int {
	t.Helper()
	n, e := wear.Needles(w)
	return number(t, n, e)
}

func records(t *testing.T, w api.Wear) int {
	t.Helper()
	n, e := wear.Records(w)
	return number(t, n, e)
}

func last(t *testing.T, w api.Wear, budget int) int {
	t.Helper()
	n, e := wear.Last(w, budget)
	if e != api.OK {
		t.Errorf("Last of %v, %d: %d", w, budget, e)
	}
	return n
}

func isGood(t *testing.T, w api.Wear, plan []api.WearWeek) bool {
	t.Helper()
	good, _, e := wear.Good(w, plan)
	if e != api.OK {
		t.Errorf("Good of %v, %v: %d", w, plan, e)
	}
	return good
}

// costOf returns the cost that Run says.
func costOf(t *testing.T, w api.Wear, plan []api.WearWeek) int {
	t.Helper()
	_, _, cost, e := wear.Run(w, plan)
	if e != api.OK {
		t.Errorf("Run of %v, %v: %d", w, plan, e)
	}
	return cost
}

// goodPlans are drawn plans of a box that are good, the plan of the least cost among them.
func goodPlans(t *testing.T, w api.Wear, draw *rand.Rand) [][]api.WearWeek {
	t.Helper()
	var l [][]api.WearWeek
	if plan, e := wear.Plan(w); e == api.OK {
		l = append(l, plan)
	}
	for i := range 12 {
		if plan := drawPlan(draw, w, i%5); isGood(t, w, plan) {
			l = append(l, plan)
		}
	}
	return l
}

// eachDrawn does something with drawn boxes of all sizes.
func eachDrawn(count int, do func(w api.Wear, draw *rand.Rand)) {
	for _, m := range []limits{few, many, full} {
		for w, draw := range drawn(count, m) {
			do(w, draw)
		}
	}
}

// P3.9 (each plan): no good plan is cheaper, or replaces less; Plan is good, and costs Cheapest.
func TestEachPlan(t *testing.T) {
	eachDrawn(150, func(w api.Wear, draw *rand.Rand) {
		cost, n, r := cheapest(t, w), needles(t, w), records(t, w)
		for _, plan := range goodPlans(t, w, draw) {
			l := live(w, plan)
			if costOf(t, w, plan) < cost || l.needles < n || l.records < r {
				t.Errorf("%v is good for %v: Cheapest = %d; Needles = %d; Records = %d", plan, w, cost, n, r)
			}
		}
		plan, e := wear.Plan(w)
		if cost == dear && e != api.ErrNone || cost != dear && (e != api.OK || !isGood(t, w, plan) || costOf(t, w, plan) != cost) {
			t.Errorf("Plan of %v = %v, %d: Cheapest = %d", w, plan, e, cost)
		}
	})
}

// copiedPlan returns a plan that shares no memory with another one.
func copiedPlan(plan []api.WearWeek) []api.WearWeek {
	out := slices.Clone(plan)
	for week := range out {
		out[week].Records = slices.Clone(out[week].Records)
	}
	return out
}

// moreReplaced are all plans that replace one more needle or record.
func moreReplaced(w api.Wear, plan []api.WearWeek) [][]api.WearWeek {
	var l [][]api.WearWeek
	for week, x := range plan {
		if x.Needle == 0 {
			more := copiedPlan(plan)
			more[week].Needle = 1
			l = append(l, more)
		}
		for r := range w.Records {
			if !slices.Contains(x.Records, r) {
				more := copiedPlan(plan)
				more[week].Records = append(more[week].Records, r)
				slices.Sort(more[week].Records)
				l = append(l, more)
			}
		}
	}
	return l
}

// P3.10 (more is replaced): a good plan is still good if one more needle or record is replaced.
func TestMoreIsReplaced(t *testing.T) {
	eachDrawn(80, func(w api.Wear, draw *rand.Rand) {
		for _, plan := range goodPlans(t, w, draw) {
			for _, more := range moreReplaced(w, plan) {
				if !isGood(t, w, more) {
					t.Errorf("%v is good for %v, but %v is not", plan, w, more)
				}
			}
		}
	})
}

// below draws a number from 0 to n.
func below(draw *rand.Rand, n int) int { return draw.IntN(n + 1) }

// lessWear are boxes in which one thing is changed so that there is less wear.
func lessWear(w api.Wear, draw *rand.Rand) []api.Wear {
	var l []api.Wear
	change := func(do func(w *api.Wear)) {
		out := copied(w)
		do(&out)
		l = append(l, out)
	}
	change(func(w *api.Wear) { w.Age = below(draw, w.Age) })
	change(func(w *api.Wear) { w.Age = max(0, w.Age-1) })
	change(func(w *api.Wear) { w.Rough[0] = below(draw, w.Rough[0]) })
	change(func(w *api.Wear) { w.Step += below(draw, api.MaxNeedle-w.Step) })
	change(func(w *api.Wear) { w.Step = min(w.Step+1, api.MaxNeedle) })
	if len(w.Records) == 0 {
		return l
	}
	i := draw.IntN(len(w.Records))
	change(func(w *api.Wear) { w.Records[i].Worn = below(draw, w.Records[i].Worn) })
	change(func(w *api.Wear) { w.Records[i].Limit += below(draw, api.MaxWorn-w.Records[i].Limit) })
	change(func(w *api.Wear) { w.Records[i].Limit++ })
	for week := range w.Weeks {
		change(func(w *api.Wear) { w.Records[i].Plays[week] = below(draw, w.Records[i].Plays[week]) })
	}
	return l
}

// P3.11 (less wear): good plans are still good, and Cheapest, Needles and Records are not greater.
func TestLessWear(t *testing.T) {
	eachDrawn(60, func(w api.Wear, draw *rand.Rand) {
		plans := goodPlans(t, w, draw)
		cost, n, r := cheapest(t, w), needles(t, w), records(t, w)
		for _, x := range lessWear(w, draw) {
			for _, plan := range plans {
				if !isGood(t, x, plan) {
					t.Errorf("%v is good for %v, but not for %v", plan, w, x)
				}
			}
			if a, b, c := cheapest(t, x), needles(t, x), records(t, x); a > cost || b > n || c > r {
				t.Errorf("of %v: %d, %d, %d; of %v: %d, %d, %d", w, cost, n, r, x, a, b, c)
			}
		}
	})
}

// withPrices returns a box with other prices.
func withPrices(w api.Wear, price func(int) int) api.Wear {
	out := copied(w)
	out.Price = price(w.Price)
	for i, r := range w.Records {
		out.Records[i].Price = price(r.Price)
	}
	return out
}

// P3.12 (prices): greater prices do not make Cheapest less; with all prices k times as great it is, too; without prices it is 0.
func TestPrices(t *testing.T) {
	eachDrawn(150, func(w api.Wear, draw *rand.Rand) {
		cost := cheapest(t, w)
		dearer := withPrices(w, func(p int) int { return p + draw.IntN(2)*below(draw, api.MaxPrice-p) })
		if n := cheapest(t, dearer); n < cost {
			t.Errorf("Cheapest of %v is %d, of %v %d", w, cost, dearer, n)
		}
		if n := cheapest(t, withPrices(w, func(int) int { return 0 })); cost != dear && n != 0 || cost == dear && n != dear {
			t.Errorf("Cheapest of %v without prices is %d", w, n)
		}
		for _, k := range []int{2, 3, 10} {
			low := withPrices(w, func(p int) int { return p % (1 + api.MaxPrice/k) })
			high := withPrices(low, func(p int) int { return p * k })
			if a, b := cheapest(t, low), cheapest(t, high); b != k*a && a != dear || a == dear && b != dear {
				t.Errorf("Cheapest of %v is %d, with %d times the prices %d", low, a, k, b)
			}
		}
	})
}

// P3.13 (weeks): the first weeks alone are not dearer; what Last says.
func TestWeeks(t *testing.T) {
	eachDrawn(80, func(w api.Wear, draw *rand.Rand) {
		var costs []int
		for count := range w.Weeks + 1 {
			costs = append(costs, cheapest(t, firstWeeks(w, count)))
		}
		if !slices.IsSorted(costs) {
			t.Errorf("Cheapest of the first weeks of %v: %v", w, costs)
		}
		cost := costs[w.Weeks]
		budgets := []int{0, 1, draw.IntN(1000), draw.IntN(api.MaxBudget), api.MaxBudget}
		for _, c := range costs {
			if c != dear {
				budgets = append(budgets, max(0, c-1), c, c+1)
			}
		}
		slices.Sort(budgets)
		before := 0
		for _, budget := range budgets {
			n := last(t, w, budget)
			whole := n == w.Weeks
			if whole != (budget >= cost) || n < before || costs[n] > budget || !whole && costs[n+1] <= budget {
				t.Errorf("Last of %v, %d = %d; with less it was %d; Cheapest: %v", w, budget, n, before, costs)
			}
			before = n
		}
	})
}

// P3.14 (worth): below Worth each plan of the least cost replaces the needle, above it none does, just at it some plan does.
func TestWorth(t *testing.T) {
	between := 0
	for w, draw := range drawn(400, few) {
		n, e := wear.Worth(w)
		all := allGood(w)
		if e == api.ErrNone {
			for x := range all {
				if x.needles > 0 {
					t.Errorf("of %v: Worth says that there is none, but %v is good", w, x)
				}
			}
			continue
		}
		worth := number(t, n, e)
		if 0 < worth && worth < api.MaxPrice {
			between++
		}
		for _, price := range []int{0, worth - 1, worth, worth + 1, below(draw, worth), worth + below(draw, api.MaxPrice-worth), api.MaxPrice} {
			if price < 0 || price > api.MaxPrice {
				continue
			}
			w.Price = price
			plan, e := wear.Plan(w)
			needles := live(w, plan).needles
			if e != api.OK || price < worth && needles == 0 || price > worth && needles > 0 {
				t.Errorf("Worth = %d, but Plan of %v = %v, %d", worth, w, plan, e)
			}
			if m, e := wear.Worth(w); m != worth || e != api.OK {
				t.Errorf("Worth of %v is %d, and with another price it was %d", w, m, worth)
			}
			checkNeedles(t, w, all, worth)
		}
	}
	if between < 20 {
		t.Errorf("only %d boxes with a Worth between the ends", between)
	}
}

// checkNeedles reports a plan of the least cost that replaces the needle, or does not, against Worth.
func checkNeedles(t *testing.T, w api.Wear, all map[replaced]bool, worth int) {
	t.Helper()
	with, without := false, false
	for x := range all {
		if x.needles*w.Price+x.cents == leastCost(all, w.Price) {
			with = with || x.needles > 0
			without = without || x.needles == 0
		}
	}
	if w.Price < worth && without || w.Price > worth && with || w.Price == worth && !with {
		t.Errorf("Worth = %d; of %v some plan replaces the needle: %t, some does not: %t", worth, w, with, without)
	}
}

// P3.15 (one after the other): the age is the number of plays since the needle was replaced; a record that is never played is worn as before, or not at all.
func TestOneAfterTheOther(t *testing.T) {
	eachDrawn(150, func(w api.Wear, draw *rand.Rand) {
		for i := range w.Records {
			if draw.IntN(2) == 0 {
				w.Records[i].Plays = make([]int, w.Weeks)
			}
		}
		for chances := range 5 {
			plan := drawPlan(draw, w, chances)
			want := w.Age
			ever := make([]bool, len(w.Records))
			for week, x := range plan {
				if x.Needle == 1 {
					want = 0
				}
				for _, r := range x.Records {
					ever[r] = true
				}
				for _, r := range w.Records {
					want += r.Plays[week]
				}
			}
			worn, age, _, e := wear.Run(w, plan)
			if age != want || e != api.OK || len(worn) != len(w.Records) {
				t.Errorf("Run of %v, %v = %v, %d, %d, not %d", w, plan, worn, age, e, want)
				continue
			}
			for i, r := range w.Records {
				played := slices.ContainsFunc(r.Plays, func(n int) bool { return n > 0 })
				if !played && (ever[i] && worn[i] != 0 || !ever[i] && worn[i] != r.Worn) {
					t.Errorf("Run of %v, %v: %d is not played, but worn %d", w, plan, i, worn[i])
				}
			}
		}
	})
}
