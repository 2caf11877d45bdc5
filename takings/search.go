package takings

import (
	"iter"
	"slices"

	"shellac/api"
	"shellac/coins"
)

// selection is the act that uses a play.
const selection = -1

// bag is how many coins there are of each kind.
type bag [api.MaxKinds]int

func (b bag) count() int {
	n := 0
	for _, coins := range b {
		n += coins
	}
	return n
}

// point is where a way can be behind a coin: the coins and slugs that are in, and the stand of the wheel.
type point struct {
	in bag
	api.Stand
}

// step is a coin of a kind, with a selection before it or none, the point to which it leads, and how many plays it buys.
type step struct {
	kind     int
	selected bool
	to       point
	bought   int
}

// search goes all ways to put in the coins and slugs of a box, and at most so many more coins.
type search struct {
	api.Box
	have    bag             // the coins that were found, and the slugs
	more    int             // how many coins can be in besides
	turned  [][]api.Stand   // for each place and each kind, the stand behind a coin, without a credit before it
	levels  [][]point       // the points behind no coin, behind one, and so on
	reached map[point][]int // for each point, all numbers of plays that ways to it buy
}

// newSearch goes all ways of a valid box.
func newSearch(b api.Box, more int) search {
	s := search{Box: b, more: more, turned: turns(b.Wheel), reached: map[point][]int{{}: {0}}}
	for kind, found := range b.Found {
		s.have[kind] = found + b.Slugs[kind]
	}
	for level := []point{{}}; len(level) > 0; level = s.next(level) {
		s.levels = append(s.levels, level)
	}
	return s
}

// turns returns for each place and each kind of a valid wheel the stand behind a coin.
func turns(w api.Wheel) [][]api.Stand {
	all := make([][]api.Stand, w.Round)
	for place := range all {
		for kind := range w.Coins {
			after, _, _ := coins.Run(w, api.Stand{Place: place}, []int{kind})
			all[place] = append(all[place], after)
		}
	}
	return all
}

// next returns all points that are a step behind those of a level.
func (s search) next(level []point) []point {
	var after []point
	for _, from := range level {
		for next := range s.steps(from) {
			plays, found := s.reached[next.to]
			if !found {
				after = append(after, next.to)
			}
			for _, n := range s.reached[from] {
				if n += next.bought; !slices.Contains(plays, n) {
					plays = append(plays, n)
				}
			}
			s.reached[next.to] = plays
		}
	}
	return after
}

// steps are all steps that can be of use at a point.
func (s search) steps(from point) iter.Seq[step] {
	return func(yield func(step) bool) {
		for kind := range s.Wheel.Coins {
			if !s.takes(from.in, kind) {
				continue
			}
			if !yield(s.put(from, kind, false)) {
				return
			}
			if from.Credit > 0 && from.Place > 0 && !yield(s.put(from, kind, true)) {
				return
			}
		}
	}
}

// takes returns whether one more coin of a kind can be in.
func (s search) takes(in bag, kind int) bool {
	in[kind]++
	besides := 0
	for k, n := range in {
		besides += max(0, n-s.have[k])
	}
	return besides <= s.more
}

// put returns the step of a coin, with a selection before it or none.
func (s search) put(from point, kind int, selected bool) step {
	to := from
	if selected {
		to.Stand = api.Stand{Credit: from.Credit - 1}
	}
	turned := s.turned[to.Place][kind]
	to.in[kind]++
	to.Place = turned.Place
	// Each selection of use has a coin behind it: a greater credit makes no difference, and would only make more points.
	to.Credit = min(to.Credit+turned.Credit, s.have.count()+s.more-to.in.count())
	return step{kind: kind, selected: selected, to: to, bought: turned.Credit}
}
