package swaps

import (
	"slices"

	"shellac/api"
)

// visit is a valid visit, with what is in its boxes now, and what of that stays.
type visit struct {
	api.Swap
	now, stay plan
}

// visitOf returns a visit; ErrSwap unless it is valid, and ErrArg unless what else is asked for is one of it.
func visitOf(s api.Swap, isOfIt bool) (visit, api.Errno) {
	switch {
	case !valid(s):
		return visit{}, api.ErrSwap
	case !isOfIt:
		return visit{}, api.ErrArg
	}
	v := visit{Swap: s, now: planOf(s.Boxes)}
	for _, k := range s.Keeps {
		v.stay[k.Box] |= titlesOf([]int{k.Title})
	}
	return v, api.OK
}

// withCopy returns a visit with one more copy of a title in the van.
func (v visit) withCopy(title int) visit {
	v.Stock = slices.Clone(v.Stock)
	v.Stock[title]++
	return v
}

// withChange returns a visit in which one more title of each box can be changed.
func (v visit) withChange() visit {
	v.Changes++
	return v
}

// plans yields all plans that fit.
func (v visit) plans(yield func(plan) bool) {
	v.fill(plan{}, 0, yield)
}

// fill yields all plans that fit and have the same titles as a plan in the boxes before some box; it returns whether more are asked for.
func (v visit) fill(p plan, box int, yield func(plan) bool) bool {
	if box == len(v.Boxes) {
		return !v.hasCopies(p) || yield(p)
	}
	for t := range titles(1) << len(v.Stock) {
		p[box] = t
		if t.count() == v.now[box].count() && v.fitsBox(p, box) && !v.fill(p, box+1, yield) {
			return false
		}
	}
	return true
}

// fits returns whether a plan fits.
func (v visit) fits(p plan) bool {
	for box := range v.Boxes {
		if !v.fitsBox(p, box) {
			return false
		}
	}
	return v.hasCopies(p)
}

// fitsBox returns whether a box has not too many changes, and all that stays in it.
func (v visit) fitsBox(p plan, box int) bool {
	return v.changesOf(p, box) <= v.Changes && v.stay[box].without(p[box]) == 0
}

// hasCopies returns whether there are as many copies of each title as a plan has.
func (v visit) hasCopies(p plan) bool {
	for title, stock := range v.Stock {
		if p.copies(title) > stock+v.now.copies(title) {
			return false
		}
	}
	return true
}

// changesOf returns how many titles of a box are not in it now.
func (v visit) changesOf(p plan, box int) int {
	return p[box].without(v.now[box]).count()
}

// changes returns the changes of all boxes together.
func (v visit) changes(p plan) int {
	all := 0
	for box := range v.Boxes {
		all += v.changesOf(p, box)
	}
	return all
}

// earnsByBox returns what a plan earns in each box.
func (v visit) earnsByBox(p plan) []int {
	cents := make([]int, len(v.Boxes))
	for box := range cents {
		for title := range p[box].each {
			cents[box] += v.Earn[title][box]
		}
	}
	return cents
}

// earns returns what a plan earns altogether.
func (v visit) earns(p plan) int {
	all := 0
	for _, cents := range v.earnsByBox(p) {
		all += cents
	}
	return all
}
