package charts

import (
	"cmp"
	"slices"

	"shellac/api"
	"shellac/meters"
)

// numbers are those of a title, ascending; there is at least one.
type numbers []int

func (n numbers) least() int { return n[0] }

func (n numbers) greatest() int { return n[len(n)-1] }

// truth has a number for each title.
type truth []int

// compare says which of two titles comes first in the order.
func (x truth) compare(a, b int) int {
	return cmp.Or(cmp.Compare(x[b], x[a]), cmp.Compare(a, b))
}

// order returns the titles in their order.
func (x truth) order() []int {
	var order []int
	for title := range x {
		order = append(order, title)
	}
	slices.SortFunc(order, x.compare)
	return order
}

func (x truth) rank(title int) int {
	rank := 1
	for other := range x {
		if x.compare(other, title) < 0 {
			rank++
		}
	}
	return rank
}

// number returns the number of the title with a rank.
func (x truth) number(rank int) int {
	return x[x.order()[rank-1]]
}

// titles are the numbers of all titles.
type titles []numbers

// titlesOf returns the titles of a chart; ErrChart unless it is valid, ErrArg unless what else is asked for is there, and ErrNone if there is no truth of some meter.
func titlesOf(c api.Chart, isThere bool) (titles, api.Errno) {
	switch {
	case !valid(c):
		return nil, api.ErrChart
	case !isThere:
		return nil, api.ErrArg
	}
	var all titles
	for title, m := range c.Meters {
		sums, e := meters.Sums(m, c.From, c.To)
		if e != api.OK {
			return nil, e
		}
		for i := range sums {
			sums[i] += c.Extra[title]
		}
		all = append(all, sums)
	}
	return all, api.OK
}

// truthOf returns the truth in which each title has the number at one end of its numbers.
func (t titles) truthOf(end func(numbers) int) truth {
	var x truth
	for _, n := range t {
		x = append(x, end(n))
	}
	return x
}

// rank returns the least and the greatest rank of a title in a truth.
func (t titles) rank(title int) api.Span {
	best, worst := t.truthOf(numbers.least), t.truthOf(numbers.greatest)
	// any numbers can come together, so also the greatest one of a title and the least ones of all others
	best[title], worst[title] = worst[title], best[title]
	return api.Span{Low: best.rank(title), High: worst.rank(title)}
}

// where returns all titles of whose rank something is so, ascending.
func (t titles) where(isSo func(rank api.Span) bool) []int {
	var all []int
	for title := range t {
		if isSo(t.rank(title)) {
			all = append(all, title)
		}
	}
	return all
}

// needs returns by how much all numbers of a title have to be greater, so that it is among so many first ones in each truth.
func (t titles) needs(title, first int) int {
	// how much it needs to stand before each other title for sure, and nothing for itself
	needs := make([]int, len(t))
	for other, greatest := range t.truthOf(numbers.greatest) {
		switch need := greatest - t[title].least(); {
		case other < title:
			needs[other] = max(0, need+1)
		case other > title:
			needs[other] = max(0, need)
		}
	}
	// the titles that need most can stay before it, one fewer than there are first ones
	slices.Sort(needs)
	return needs[len(needs)-first]
}

// next returns the title whose number should be found out, and whether there is one with more than one number.
func (t titles) next(first int) (best int, ok bool) {
	least := 0
	for title, n := range t {
		if len(n) == 1 {
			continue
		}
		if open := t.open(title, first); !ok || open < least {
			best, least, ok = title, open, true
		}
	}
	return best, ok
}

// open returns of how many titles it is open at the most whether they are among so many first ones, if the number of one title is found out.
func (t titles) open(title, first int) int {
	known, most := slices.Clone(t), 0
	for _, n := range t[title] {
		known[title] = numbers{n}
		open := known.where(func(rank api.Span) bool { return rank.Low <= first && first < rank.High })
		most = max(most, len(open))
	}
	return most
}
