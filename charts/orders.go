package charts

import (
	"math"
	"sort"
)

// orders returns how many different orders there are in truths.
func (t titles) orders() int {
	return lineup{t, map[int]bool{}}.count(-1, math.MaxInt)
}

// lineup is an order that is made from its first title on.
type lineup struct {
	titles
	gone map[int]bool // the titles that stand in it already
}

// count returns how many orders go on behind a title with a number.
func (l lineup) count(last, number int) int {
	if len(l.gone) == len(l.titles) {
		return 1
	}
	count := 0
	for title, n := range l.titles {
		if l.gone[title] {
			continue
		}
		limit := number
		if title < last {
			limit--
		}
		// What can stand behind a title with a lesser number can also stand behind it with the greatest one that it can have here.
		if greatest, ok := n.atMost(limit); ok {
			l.gone[title] = true
			count += l.count(title, greatest)
			delete(l.gone, title)
		}
	}
	return count
}

// atMost returns the greatest number up to a limit, and whether there is one.
func (n numbers) atMost(limit int) (int, bool) {
	i := sort.Search(len(n), func(i int) bool { return n[i] > limit })
	if i == 0 {
		return 0, false
	}
	return n[i-1], true
}
