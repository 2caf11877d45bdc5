package swaps

import (
	"slices"

	"shellac/api"
)

// valid returns whether a visit is valid.
func valid(s api.Swap) bool {
	if len(s.Boxes) > api.MaxSwapBoxes || len(s.Stock) > api.MaxTitles || len(s.Keeps) > api.MaxKeeps {
		return false
	}
	for _, list := range s.Boxes {
		if len(list) > api.MaxSlots || !areTitles(s, list) {
			return false
		}
	}
	for _, k := range s.Keeps {
		if !isFrom(0, k.Box, len(s.Boxes)-1) || !slices.Contains(s.Boxes[k.Box], k.Title) {
			return false
		}
	}
	return areUpTo(api.MaxStock, s.Stock) && hasEarnings(s) && isFrom(0, s.Changes, api.MaxSlots)
}

// hasEarnings returns whether there is a valid number for each title and each box.
func hasEarnings(s api.Swap) bool {
	if len(s.Earn) != len(s.Stock) {
		return false
	}
	for _, cents := range s.Earn {
		if len(cents) != len(s.Boxes) || !areUpTo(api.MaxEarn, cents) {
			return false
		}
	}
	return true
}

// isPlan returns whether a plan is one of a visit.
func isPlan(s api.Swap, plan [][]int) bool {
	if len(plan) != len(s.Boxes) {
		return false
	}
	for box, list := range plan {
		if len(list) != len(s.Boxes[box]) || !areTitles(s, list) {
			return false
		}
	}
	return true
}

// areTitles returns whether numbers are those of titles, strictly ascending.
func areTitles(s api.Swap, numbers []int) bool {
	for i, n := range numbers {
		if !isTitle(s, n) || i > 0 && n <= numbers[i-1] {
			return false
		}
	}
	return true
}

func isTitle(s api.Swap, title int) bool {
	return isFrom(0, title, len(s.Stock)-1)
}

// areUpTo returns whether all numbers are from 0 to high.
func areUpTo(high int, numbers []int) bool {
	for _, n := range numbers {
		if !isFrom(0, n, high) {
			return false
		}
	}
	return true
}

// isFrom returns whether a number is from low to high.
func isFrom(low, n, high int) bool {
	return low <= n && n <= high
}
