package pulses

import (
	"slices"

	"shellac/api"
)

// listOf returns the list of selections of some pulses, and whether they are clean.
func listOf(p api.Pulse, times []int) (list []int, clean bool) {
	for _, part := range parts(times, p.Pause) {
		groups := parts(part, p.Gap)
		if len(groups) != 2 || !isGroup(p, groups[0], p.Letters) || !isGroup(p, groups[1], p.Numbers) {
			return nil, false
		}
		letter, number := len(groups[0])-1, len(groups[1])-1
		list = append(list, letter*p.Numbers+number)
	}
	return list, true
}

// parts returns the parts of some times between which the distances are at least so great.
func parts(times []int, least int) [][]int {
	var list [][]int
	begin := 0
	for i := range times {
		end := i + 1
		if end == len(times) || times[end]-times[i] >= least {
			list = append(list, times[begin:end])
			begin = end
		}
	}
	return list
}

// isGroup returns whether some pulses are a group of at most so many.
func isGroup(p api.Pulse, group []int, most int) bool {
	for i, at := range group[1:] {
		if !isFrom(p.Pitch-p.Slack, at-group[i], p.Pitch+p.Slack) {
			return false
		}
	}
	return len(group) <= most
}

// written returns the times of the pulses of a list of selections, the first one at a time.
func written(p api.Pulse, list []int, from int) []int {
	var times []int
	// as if a selection had ended just a pause before
	at := from - p.Pause
	for _, selection := range list {
		letter, number := selection/p.Numbers, selection%p.Numbers
		for _, distance := range slices.Concat([]int{p.Pause}, slices.Repeat([]int{p.Pitch}, letter), []int{p.Gap}, slices.Repeat([]int{p.Pitch}, number)) {
			at += distance
			times = append(times, at)
		}
	}
	return times
}
