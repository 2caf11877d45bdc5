package swaps

import (
	"math/bits"

	"shellac/api"
)

// titles are some titles, each a bit at its number.
type titles uint8

func titlesOf(list []int) titles {
	var t titles
	for _, title := range list {
		t |= 1 << title
	}
	return t
}

func (t titles) count() int { return bits.OnesCount8(uint8(t)) }

func (t titles) has(title int) bool { return t>>title&1 == 1 }

// without returns the titles that are not among other ones.
func (t titles) without(others titles) titles { return t &^ others }

// each yields the titles, ascending.
func (t titles) each(yield func(title int) bool) {
	for title := range api.MaxTitles {
		if t.has(title) && !yield(title) {
			return
		}
	}
}

// plan is the titles of each box; a box that is not there has none, so that a plan is a value whatever the number of boxes.
type plan [api.MaxSwapBoxes]titles

// planOf returns the plan that has lists of titles in its boxes.
func planOf(lists [][]int) plan {
	var p plan
	for box, list := range lists {
		p[box] = titlesOf(list)
	}
	return p
}

// copies returns how many boxes have a title.
func (p plan) copies(title int) int {
	count := 0
	for _, t := range p {
		if t.has(title) {
			count++
		}
	}
	return count
}

// lists returns the titles of so many boxes, ascending.
func (p plan) lists(boxes int) [][]int {
	lists := make([][]int, boxes)
	for box := range lists {
		for title := range p[box].each {
			lists[box] = append(lists[box], title)
		}
	}
	return lists
}

// keeps returns all titles with their boxes, by boxes, and of a box by titles.
func (p plan) keeps() []api.SwapKeep {
	var keeps []api.SwapKeep
	for box, t := range p {
		for title := range t.each {
			keeps = append(keeps, api.SwapKeep{Box: box, Title: title})
		}
	}
	return keeps
}
