package wear_test

import (
	"iter"
	"math/rand/v2"
	"slices"

	"shellac/api"
)

// This file is a second box, for which all plans are tried: the tests compare the package with it.

func newRecord(worn, limit, price int, plays ...int) api.WearRecord {
	return api.WearRecord{Worn: worn, Limit: limit, Price: price, Plays: plays}
}

// newBox returns a box with some weeks.
func newBox(weeks, price, age, step int, rough []int, records ...api.WearRecord) api.Wear {
	return api.Wear{Weeks: weeks, Price: price, Age: age, Step: step, Rough: rough, Records: records}
}

// boxB is the box of the chapter's examples.
func boxB() api.Wear {
	return newBox(3, 50, 0, 10, []int{1, 2, 4}, newRecord(0, 40, 30, 10, 10, 10), newRecord(5, 60, 20, 5, 5, 5))
}

// limited returns B with another limit of its record 0.
func limited(limit int) api.Wear {
	w := boxB()
	w.Records[0].Limit = limit
	return w
}

// widest is a box with all that the limits allow.
func widest() api.Wear {
	r := newRecord(api.MaxWorn, api.MaxWorn, api.MaxPrice, slices.Repeat([]int{api.MaxPlayed}, api.MaxWearWeeks)...)
	return newBox(api.MaxWearWeeks, api.MaxPrice, api.MaxAge, api.MaxNeedle, slices.Repeat([]int{api.MaxGrind}, api.MaxRough), r, r, r, r)
}

// in returns a week of a plan.
func in(needle int, records ...int) api.WearWeek {
	return api.WearWeek{Needle: needle, Records: records}
}

// planP is the plan of the chapter's examples.
func planP() []api.WearWeek { return []api.WearWeek{in(0), in(1), in(1)} }

// nothing is the plan that replaces nothing.
func nothing(w api.Wear) []api.WearWeek { return make([]api.WearWeek, w.Weeks) }

// grinds returns by how much a play wears a record with a needle of some age.
func grinds(w api.Wear, age int) int {
	rough := 0
	for age >= w.Step && rough < len(w.Rough)-1 {
		age -= w.Step
		rough++
	}
	return w.Rough[rough]
}

// lived is what is seen of a box while a plan is carried out.
type lived struct {
	worn                   []int // at the end
	age                    int   // at the end
	bad                    int   // the first week at the end of which a record is worn too much, or -1
	needles, records, cost int
}

// live carries out a plan, whether it is good or not.
func live(w api.Wear, plan []api.WearWeek) lived {
	l := lived{age: w.Age, bad: -1}
	for _, r := range w.Records {
		l.worn = append(l.worn, r.Worn)
	}
	for week, x := range plan {
		if x.Needle > 0 {
			l.age, l.needles, l.cost = 0, l.needles+1, l.cost+w.Price
		}
		for i, r := range w.Records {
			if slices.Contains(x.Records, i) {
				l.worn[i], l.records, l.cost = 0, l.records+1, l.cost+r.Price
			}
			for n := r.Plays[week]; n > 0; n-- {
				l.worn[i] += grinds(w, l.age)
				l.age++
			}
		}
		for i, r := range w.Records {
			if l.worn[i] > r.Limit && l.bad < 0 {
				l.bad = week
			}
		}
	}
	return l
}

// isPlanOf returns whether a plan is one of a box.
func isPlanOf(w api.Wear, plan []api.WearWeek) bool {
	for _, x := range plan {
		last := -1
		for _, r := range x.Records {
			if r <= last || r >= len(w.Records) {
				return false
			}
			last = r
		}
		if x.Needle < 0 || x.Needle > 1 {
			return false
		}
	}
	return len(plan) == w.Weeks
}

// planOf returns the plan with a number: it has a bit for each record and then for the needle, week by week.
func planOf(w api.Wear, number int) []api.WearWeek {
	plan := nothing(w)
	for week := range plan {
		for r := range w.Records {
			if number&1 == 1 {
				plan[week].Records = append(plan[week].Records, r)
			}
			number >>= 1
		}
		plan[week].Needle = number & 1
		number >>= 1
	}
	return plan
}

// bits returns how many bits the numbers of the plans of a box have.
func bits(w api.Wear) int { return w.Weeks * (1 + len(w.Records)) }

// replaced is how many needles a good plan replaces, how many records, and the cents for these.
type replaced struct{ needles, records, cents int }

// allGood returns what is replaced in all good plans of a box, each of them tried.
func allGood(w api.Wear) map[replaced]bool {
	w.Price = 0
	all := map[replaced]bool{}
	for number := range 1 << bits(w) {
		if l := live(w, planOf(w, number)); l.bad < 0 {
			all[replaced{l.needles, l.records, l.cost}] = true
		}
	}
	return all
}

// thriftyGood returns for each choice of needles what is replaced in the good plan with the fewest records:
// for each record alone, which makes no difference to the others, all choices of weeks are tried. It is for boxes that have too many plans.
func thriftyGood(w api.Wear) map[replaced]bool {
	w.Price = 0
	all := map[replaced]bool{}
	for needles := range 1 << w.Weeks {
		var x replaced
		good := true
		for r := range w.Records {
			fewest := -1
			for weeks := range 1 << w.Weeks {
				plan := nothing(w)
				count := 0
				for week := range plan {
					plan[week].Needle = needles >> week & 1
					if weeks>>week&1 == 1 {
						plan[week].Records = []int{r}
						count++
					}
				}
				if (fewest < 0 || count < fewest) && live(only(w, r), plan).bad < 0 {
					fewest = count
				}
			}
			good = good && fewest >= 0
			x.records += fewest
			x.cents += fewest * w.Records[r].Price
		}
		for week := range w.Weeks {
			x.needles += needles >> week & 1
		}
		if good {
			all[x] = true
		}
	}
	return all
}

// only returns a box in which no other record has a limit that matters.
func only(w api.Wear, record int) api.Wear {
	w.Records = slices.Clone(w.Records)
	for r := range w.Records {
		if r != record {
			w.Records[r].Worn, w.Records[r].Limit = 0, 1<<30
		}
	}
	return w
}

// none is said by the second box if no plan is good.
const none = -1

// least returns the least of some numbers of the good plans, or none.
func least(all map[replaced]bool, number func(replaced) int) int {
	n := none
	for x := range all {
		if m := number(x); n == none || m < n {
			n = m
		}
	}
	return n
}

// leastCost returns the least cost if a needle has a price, or none.
func leastCost(all map[replaced]bool, price int) int {
	return least(all, func(x replaced) int { return x.needles*price + x.cents })
}

// worthBy tries all prices, and returns the greatest one for which a good plan of the least cost replaces the needle, or none.
func worthBy(all map[replaced]bool) int {
	for price := api.MaxPrice; price >= 0; price-- {
		cost := leastCost(all, price)
		for x := range all {
			if x.needles > 0 && x.needles*price+x.cents == cost {
				return price
			}
		}
	}
	return none
}

// firstWeeks returns a box for so many first weeks.
func firstWeeks(w api.Wear, count int) api.Wear {
	out := newBox(count, w.Price, w.Age, w.Step, w.Rough)
	for _, r := range w.Records {
		out.Records = append(out.Records, newRecord(r.Worn, r.Limit, r.Price, slices.Clone(r.Plays[:count])...))
	}
	return out
}

// lastBy returns the greatest number of first weeks that a budget lasts; good returns what is replaced in the good plans.
func lastBy(w api.Wear, budget int, good func(api.Wear) map[replaced]bool) int {
	for count := w.Weeks; count > 0; count-- {
		if cost := leastCost(good(firstWeeks(w, count)), w.Price); cost != none && cost <= budget {
			return count
		}
	}
	return 0
}

// copied returns a box that shares no memory with another one.
func copied(w api.Wear) api.Wear {
	out := firstWeeks(w, w.Weeks)
	out.Rough = slices.Clone(w.Rough)
	return out
}

// limits is what drawn boxes have at most.
type limits struct{ weeks, records, played, step, grind int }

var (
	// few are boxes of which all plans are soon tried.
	few = limits{weeks: 3, records: 2, played: 4, step: 4, grind: 4}
	// many are boxes with more plans.
	many = limits{weeks: 6, records: 4, played: 9, step: 12, grind: 6}
	// full are boxes up to the limits.
	full = limits{weeks: api.MaxWearWeeks, records: api.MaxWearRecords, played: api.MaxPlayed, step: 150, grind: api.MaxGrind}
)

// drawn are so many boxes, the same ones in each run.
func drawn(count int, m limits) iter.Seq2[api.Wear, *rand.Rand] {
	return func(yield func(api.Wear, *rand.Rand) bool) {
		draw := rand.New(rand.NewPCG(3, uint64(m.played)))
		for range count {
			if !yield(drawBox(draw, m), draw) {
				return
			}
		}
	}
}

// drawBox draws a box in which records are worn too much now and then.
func drawBox(draw *rand.Rand, m limits) api.Wear {
	w := newBox(drawCount(draw, m.weeks), drawPrice(draw), draw.IntN(2*m.step), 1+draw.IntN(m.step), nil)
	for range 1 + draw.IntN(5) {
		w.Rough = append(w.Rough, draw.IntN(m.grind+1))
	}
	slices.Sort(w.Rough)
	for range drawCount(draw, m.records) {
		r := newRecord(0, 0, drawPrice(draw))
		for range w.Weeks {
			r.Plays = append(r.Plays, draw.IntN(m.played+1))
		}
		week := m.played * w.Rough[len(w.Rough)-1]
		r.Limit = draw.IntN(2*week + 2)
		r.Worn = draw.IntN(r.Limit + 2)
		if draw.IntN(9) == 0 {
			r.Plays = make([]int, w.Weeks)
		}
		w.Records = append(w.Records, r)
	}
	return w
}

// drawCount draws a number from 0 to n, and 0 less often than the others.
func drawCount(draw *rand.Rand, n int) int {
	return max(draw.IntN(n+1), draw.IntN(2))
}

// drawPrice draws small prices, which are often equal, and all others.
func drawPrice(draw *rand.Rand) int {
	return draw.IntN([]int{1, 4, 60, api.MaxPrice + 1}[draw.IntN(4)])
}

// drawPlan draws a plan, with so many of four chances to replace something.
func drawPlan(draw *rand.Rand, w api.Wear, chances int) []api.WearWeek {
	plan := nothing(w)
	for week := range plan {
		if draw.IntN(4) < chances {
			plan[week].Needle = 1
		}
		for r := range w.Records {
			if draw.IntN(4) < chances {
				plan[week].Records = append(plan[week].Records, r)
			}
		}
	}
	return plan
}
