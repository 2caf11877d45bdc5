package swaps_test

import (
	"iter"
	"math/rand/v2"
	"slices"

	"shellac/api"
)

// This file is a second look at visits, for which all plans are laid out as lists: the tests compare the package with it.

// visitS is the visit of the chapter's examples.
func visitS() api.Swap {
	return newVisit(1, []int{0, 0, 0, 1}, [][]int{{5, 9}, {4, 1}, {6, 3}, {7, 8}}, []int{0, 1}, []int{0, 2})
}

// newVisit returns a visit in which nothing has to stay.
func newVisit(changes int, stock []int, earn [][]int, boxes ...[]int) api.Swap {
	return api.Swap{Boxes: boxes, Stock: stock, Earn: earn, Changes: changes}
}

// oneBox returns a visit to one box, for which there is a copy of each title in the van.
func oneBox(changes int, box []int, earn ...int) api.Swap {
	s := newVisit(changes, slices.Repeat([]int{1}, len(earn)), nil, box)
	for _, cents := range earn {
		s.Earn = append(s.Earn, []int{cents})
	}
	return s
}

// widest is a visit with all that the limits allow, and in which nothing has to stay.
func widest() api.Swap {
	s := newVisit(api.MaxSlots, slices.Repeat([]int{api.MaxStock}, api.MaxTitles), nil, []int{0, 1, 2}, []int{2, 3, 4}, []int{3, 4, 5})
	for range s.Stock {
		s.Earn = append(s.Earn, slices.Repeat([]int{api.MaxEarn}, api.MaxSwapBoxes))
	}
	return s
}

// with returns a visit with something changed.
func with(s api.Swap, change func(s *api.Swap)) api.Swap {
	s = copied(s)
	change(&s)
	return s
}

// copied returns a visit that shares no memory with another one.
func copied(s api.Swap) api.Swap {
	s.Boxes, s.Earn = rows(s.Boxes), rows(s.Earn)
	s.Stock, s.Keeps = slices.Clone(s.Stock), slices.Clone(s.Keeps)
	return s
}

// rows returns lists that share no memory with other ones.
func rows(lists [][]int) [][]int {
	out := slices.Clone(lists)
	for i, l := range lists {
		out[i] = slices.Clone(l)
	}
	return out
}

func keep(box, title int) api.SwapKeep { return api.SwapKeep{Box: box, Title: title} }

// chosen are all ways to choose so many of the numbers from first up to below end, ascending.
func chosen(count, first, end int) [][]int {
	if count == 0 {
		return [][]int{nil}
	}
	var all [][]int
	for n := first; n < end; n++ {
		for _, rest := range chosen(count-1, n+1, end) {
			all = append(all, append([]int{n}, rest...))
		}
	}
	return all
}

// allPlans are all plans of a visit, whether they fit or not.
func allPlans(s api.Swap) [][][]int {
	all := [][][]int{nil}
	for _, box := range s.Boxes {
		var longer [][][]int
		for _, plan := range all {
			for _, titles := range chosen(len(box), 0, len(s.Stock)) {
				longer = append(longer, append(slices.Clone(plan), titles))
			}
		}
		all = longer
	}
	return all
}

// changesBy returns for each box how many titles of a plan are not in it now.
func changesBy(s api.Swap, plan [][]int) []int {
	changes := make([]int, len(plan))
	for box, titles := range plan {
		for _, title := range titles {
			if !slices.Contains(s.Boxes[box], title) {
				changes[box]++
			}
		}
	}
	return changes
}

// fitsBy returns whether a plan fits: all copies are taken out of the boxes, and put into them one by one.
func fitsBy(s api.Swap, plan [][]int) bool {
	for _, changes := range changesBy(s, plan) {
		if changes > s.Changes {
			return false
		}
	}
	for _, k := range s.Keeps {
		if !slices.Contains(plan[k.Box], k.Title) {
			return false
		}
	}
	left := slices.Clone(s.Stock)
	for _, title := range slices.Concat(s.Boxes...) {
		left[title]++
	}
	for _, title := range slices.Concat(plan...) {
		left[title]--
	}
	return !slices.ContainsFunc(left, func(n int) bool { return n < 0 })
}

// earnsBy returns what a plan earns in each box.
func earnsBy(s api.Swap, plan [][]int) []int {
	cents := make([]int, len(plan))
	for box, titles := range plan {
		for _, title := range titles {
			cents[box] += s.Earn[title][box]
		}
	}
	return cents
}

func sum(numbers []int) int {
	all := 0
	for _, n := range numbers {
		all += n
	}
	return all
}

// seen is a plan that fits, what it earns in each box, and its changes.
type seen struct {
	plan    [][]int
	cents   []int
	changes int
}

// look returns all plans that fit.
func look(s api.Swap) []seen {
	var all []seen
	for _, plan := range allPlans(s) {
		if fitsBy(s, plan) {
			all = append(all, seen{plan, earnsBy(s, plan), sum(changesBy(s, plan))})
		}
	}
	return all
}

// bestBy returns how much any of some plans earns at the most.
func bestBy(all []seen) int {
	most := -1
	for _, x := range all {
		most = max(most, sum(x.cents))
	}
	return most
}

// alwaysBy returns what is in the same box in each of the plans that earn most.
func alwaysBy(s api.Swap, all []seen) []api.SwapKeep {
	var always []api.SwapKeep
	most := bestBy(all)
	for box := range s.Boxes {
		for title := range s.Stock {
			if !slices.ContainsFunc(all, func(x seen) bool { return sum(x.cents) == most && !slices.Contains(x.plan[box], title) }) {
				always = append(always, keep(box, title))
			}
		}
	}
	return always
}

// fairBy returns the greatest number that one of the plans earns in each box, each number tried from 0 on; there has to be a box.
func fairBy(all []seen) int {
	fair := 0
	for slices.ContainsFunc(all, func(x seen) bool { return slices.Min(x.cents) > fair }) {
		fair++
	}
	return fair
}

// fewestBy returns the least number of changes of the plans that earn a goal, -1 if none does.
func fewestBy(all []seen, goal int) int {
	fewest := -1
	for _, x := range all {
		if sum(x.cents) >= goal && (fewest < 0 || x.changes < fewest) {
			fewest = x.changes
		}
	}
	return fewest
}

// limits is what drawn visits have at most.
type limits struct{ boxes, titles, slots, stock, earn int }

var (
	// few are visits with few plans, many of which earn the same.
	few = limits{boxes: 2, titles: 4, slots: 2, stock: 1, earn: 3}
	// scarce are visits for which there are few copies in the van, so that records are moved between the boxes.
	scarce = limits{boxes: api.MaxSwapBoxes, titles: 5, slots: 2, stock: 1, earn: 20}
	// full are visits up to the limits.
	full = limits{boxes: api.MaxSwapBoxes, titles: api.MaxTitles, slots: api.MaxSlots, stock: api.MaxStock, earn: api.MaxEarn}
)

// drawn are so many visits, the same ones in each run.
func drawn(count int, l limits) iter.Seq2[api.Swap, *rand.Rand] {
	return func(yield func(api.Swap, *rand.Rand) bool) {
		draw := rand.New(rand.NewPCG(7, uint64(1000*l.titles+l.earn)))
		for range count {
			if !yield(drawVisit(draw, l), draw) {
				return
			}
		}
	}
}

// drawVisit draws a visit, most often with some boxes and titles.
func drawVisit(draw *rand.Rand, l limits) api.Swap {
	upTo := func(most int) int { return max(draw.IntN(most+1), draw.IntN(most+1), draw.IntN(most+1)) }
	s := api.Swap{Changes: draw.IntN(api.MaxSlots) + draw.IntN(2)}
	boxes := upTo(l.boxes)
	for range upTo(l.titles) {
		// most often there is no copy in the van, so that it matters what is in the boxes
		s.Stock = append(s.Stock, draw.IntN(2)*draw.IntN(l.stock+1))
		var cents []int
		for range boxes {
			cents = append(cents, draw.IntN(l.earn+1))
		}
		s.Earn = append(s.Earn, cents)
	}
	for box := range boxes {
		count := min(len(s.Stock), upTo(l.slots))
		s.Boxes = append(s.Boxes, slices.Sorted(slices.Values(draw.Perm(len(s.Stock))[:count])))
		for _, title := range s.Boxes[box] {
			if draw.IntN(6) == 0 && len(s.Keeps) < api.MaxKeeps {
				s.Keeps = append(s.Keeps, keep(box, title))
			}
		}
	}
	return s
}

// drawPlan draws a plan of a visit, which fits or not.
func drawPlan(draw *rand.Rand, s api.Swap) [][]int {
	var plan [][]int
	for _, box := range s.Boxes {
		plan = append(plan, slices.Sorted(slices.Values(draw.Perm(len(s.Stock))[:len(box)])))
	}
	return plan
}
