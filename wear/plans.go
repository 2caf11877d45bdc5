package wear

import (
	"iter"
	"slices"

	"shellac/api"
)

// bill is how many needles and records a plan replaces, and what it costs.
type bill struct {
	needles, records, cost int
}

func (b bill) newNeedles() int { return b.needles }

func (b bill) newRecords() int { return b.records }

func (b bill) total() int { return b.cost }

// billOf returns the bill of a plan of a valid box.
func billOf(w api.Wear, plan []api.WearWeek) bill {
	var b bill
	for _, week := range plan {
		b.needles += week.Needle
		b.cost += week.Needle * w.Price
		b.records += len(week.Records)
		for _, record := range week.Records {
			b.cost += w.Records[record].Price
		}
	}
	return b
}

// choices yields a new plan for each choice of weeks in which the needle is replaced; it replaces no records.
func choices(weeks int) iter.Seq[[]api.WearWeek] {
	return func(yield func([]api.WearWeek) bool) {
		for chosen := range 1 << weeks {
			plan := make([]api.WearWeek, weeks)
			for week := range plan {
				plan[week].Needle = chosen >> week & 1
			}
			if !yield(plan) {
				return
			}
		}
	}
}

// replaceRecords replaces each record as late as it can be in a plan that replaces needles alone, and returns whether the plan is good then.
//
// The needles alone say how much a week wears a record, so that no record makes a difference to another one;
// and the later it is replaced, the longer it lasts: no other good plan with these needles replaces it less often.
func replaceRecords(w api.Wear, plan []api.WearWeek) bool {
	now := standBefore(w)
	for week, added := range weeks(w, plan) {
		for record, r := range w.Records {
			if now.worn[record]+added.worn[record] > r.Limit {
				plan[week].Records = append(plan[week].Records, record)
				now.worn[record] = 0
			}
			now.worn[record] += added.worn[record]
		}
		if now.isTooWorn(w.Records) {
			return false
		}
	}
	return true
}

// goodPlans yields for each choice of needles a good plan that replaces each record as seldom as a good plan can, if there is one.
func goodPlans(w api.Wear) iter.Seq[[]api.WearWeek] {
	return func(yield func([]api.WearWeek) bool) {
		for plan := range choices(w.Weeks) {
			if replaceRecords(w, plan) && !yield(plan) {
				return
			}
		}
	}
}

// best returns a good plan for which a number of its bill is least, and this number; ErrNone if no plan is good.
func best(w api.Wear, number func(bill) int) (plan []api.WearWeek, least int, e api.Errno) {
	if !valid(w) {
		return nil, 0, api.ErrWear
	}
	e = api.ErrNone
	for p := range goodPlans(w) {
		n := number(billOf(w, p))
		if e != api.OK || n < least {
			plan, least, e = p, n, api.OK
		}
	}
	return plan, least, e
}

// worth returns the greatest price of a needle for which some good plan of the least cost replaces the needle, and whether there is one.
func worth(w api.Wear) (price int, ok bool) {
	w.Price = 0 // so that a bill has what the records cost
	old := make([]api.WearWeek, w.Weeks)
	lasts := replaceRecords(w, old)
	without := billOf(w, old).cost
	for plan := range goodPlans(w) {
		b := billOf(w, plan)
		if b.needles == 0 {
			continue
		}
		most := api.MaxPrice
		if lasts {
			// What is saved is not below 0, since with more needles no record must be replaced more often.
			most = min(most, (without-b.cost)/b.needles)
		}
		price, ok = max(price, most), true
	}
	return price, ok
}

// last returns the greatest number of first weeks for which some good plan costs at most a budget.
func last(w api.Wear, budget int) int {
	longest := 0
	for count := range w.Weeks + 1 {
		_, cost, e := best(first(w, count), bill.total)
		if e == api.OK && cost <= budget {
			longest = count
		}
	}
	return longest
}

// first returns a box for so many first weeks alone.
func first(w api.Wear, count int) api.Wear {
	w.Weeks = count
	w.Records = slices.Clone(w.Records)
	for i, r := range w.Records {
		w.Records[i].Plays = r.Plays[:count]
	}
	return w
}
