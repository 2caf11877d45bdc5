package swaps

import "slices"

// best returns how much a plan that fits earns at the most.
func (v visit) best() int {
	return v.earns(v.bestPlan())
}

// bestPlan returns a plan that fits, and earns as much as it can.
func (v visit) bestPlan() plan {
	best := v.now
	for p := range v.plans {
		if v.earns(p) > v.earns(best) {
			best = p
		}
	}
	return best
}

// always returns what all plans have in their boxes that fit, and earn as much as they can.
func (v visit) always() plan {
	common := v.bestPlan()
	best := v.earns(common)
	for p := range v.plans {
		if v.earns(p) < best {
			continue
		}
		for box, t := range p {
			common[box] &= t
		}
	}
	return common
}

// fair returns how much a plan that fits earns at the most in the box in which it earns least; there has to be a box.
func (v visit) fair() int {
	fair := 0
	for p := range v.plans {
		fair = max(fair, slices.Min(v.earnsByBox(p)))
	}
	return fair
}

// fewest returns the least number of changes of a plan that fits and earns at least a goal, and whether there is one.
func (v visit) fewest(goal int) (least int, ok bool) {
	for p := range v.plans {
		if v.earns(p) < goal {
			continue
		}
		if changes := v.changes(p); !ok || changes < least {
			least, ok = changes, true
		}
	}
	return least, ok
}
