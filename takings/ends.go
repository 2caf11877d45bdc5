package takings

import (
	"cmp"
	"slices"
)

// isWhole returns whether all that was found is in.
func (s search) isWhole(p point) bool {
	for kind, n := range s.have {
		if p.in[kind] < n {
			return false
		}
	}
	return true
}

// missing returns what is in at a point besides all that was found.
func (s search) missing(whole point) bag {
	for kind, n := range s.have {
		whole.in[kind] -= n
	}
	return whole.in
}

// cents returns the worth of coins.
func (s search) cents(b bag) int {
	sum := 0
	for kind, worth := range s.Wheel.Coins {
		sum += b[kind] * worth
	}
	return sum
}

// bought returns all numbers of plays that ways buy which put in all that was found, ascending.
func (s search) bought() []int {
	var all []int
	for p, plays := range s.reached {
		if s.isWhole(p) {
			all = append(all, plays...)
		}
	}
	slices.Sort(all)
	return slices.Compact(all)
}

// isShown returns whether the register can show what it does if so many plays were bought.
func (s search) isShown(plays int) bool {
	return isFrom(s.Plays, plays, s.Plays+s.Skips)
}

// explanations returns where the explanations end whose purses are worth the least.
func (s search) explanations() []point {
	var ends []point
	least := 0
	for p, plays := range s.reached {
		if !s.isWhole(p) || !slices.ContainsFunc(plays, s.isShown) {
			continue
		}
		cents := s.cents(s.missing(p))
		if len(ends) == 0 || cents < least {
			ends, least = nil, cents
		}
		if cents == least {
			ends = append(ends, p)
		}
	}
	// the map yields them in any order
	slices.SortFunc(ends, compare)
	return ends
}

func compare(a, b point) int {
	return cmp.Or(slices.Compare(a.in[:], b.in[:]), cmp.Compare(a.Place, b.Place), cmp.Compare(a.Credit, b.Credit))
}

// way returns the acts of an explanation that ends at a point.
func (s search) way(end point) []int {
	var acts []int
	shown := slices.IndexFunc(s.reached[end], s.isShown)
	for at, plays := end, s.reached[end][shown]; at.in != (bag{}); {
		from, last := s.before(at, plays)
		acts = append(acts, last.kind)
		if last.selected {
			acts = append(acts, selection)
		}
		at, plays = from, plays-last.bought
	}
	slices.Reverse(acts)
	return acts
}

// before returns a point, and a step from it to another one, behind which so many plays are bought.
func (s search) before(to point, plays int) (point, step) {
	for _, from := range s.levels[to.in.count()-1] {
		for last := range s.steps(from) {
			if last.to == to && slices.Contains(s.reached[from], plays-last.bought) {
				return from, last
			}
		}
	}
	// no point is reached without one before it
	return point{}, step{}
}
