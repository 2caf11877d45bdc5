package takings_test

import (
	"fmt"
	"iter"
	"maps"
	"math/rand/v2"
	"slices"

	"shellac/api"
)

// This file is a second look at boxes, with a wheel that is turned cent by cent, and for which all ways and all purses that can be missing are tried: the tests compare the package with it.

func wheel(round int, notches, coins []int) api.Wheel {
	return api.Wheel{Round: round, Notches: notches, Coins: coins}
}

// box returns a box in which nothing is marked, without slugs, whose register cannot have skipped a play.
func box(w api.Wheel, plays int, found ...int) api.Box {
	return api.Box{Wheel: w, Found: found, Marked: make([]int, len(found)), Slugs: make([]int, len(found)), Plays: plays}
}

// with returns a box with something changed.
func with(b api.Box, change func(b *api.Box)) api.Box {
	b = copied(b)
	change(&b)
	return b
}

// skips returns a box whose register can have skipped so many plays.
func skips(b api.Box, count int) api.Box {
	b.Skips = count
	return b
}

// shows returns a box whose register shows so many plays.
func shows(b api.Box, plays int) api.Box {
	b.Plays = plays
	return b
}

// slugs returns a box with so many slugs of each kind.
func slugs(b api.Box, count ...int) api.Box {
	b.Slugs = count
	return b
}

// wheelW is the wheel, and boxX the box, of the chapter's examples.
func wheelW() api.Wheel { return wheel(50, []int{10, 20, 25}, []int{5, 10, 25}) }

func boxX() api.Box {
	return with(box(wheelW(), 6, 0, 2, 1), func(b *api.Box) { b.Marked[1] = 1 })
}

// widest is a box with all that the limits allow.
func widest() api.Box {
	w := wheel(api.MaxRound, []int{100, 120, 140, 145, 150, 155, 160, 175, 180, 190, 195, 199}, []int{16, 20, 21, 22})
	b := skips(slugs(box(w, 50, 3, 2, 1, 0), 0, 1, 2, 3), api.MaxSkips)
	b.Marked = []int{3, 2, 1, 0}
	return b
}

// copied returns a box that shares no memory with another one.
func copied(b api.Box) api.Box {
	b.Wheel.Notches, b.Wheel.Coins = slices.Clone(b.Wheel.Notches), slices.Clone(b.Wheel.Coins)
	b.Found, b.Marked, b.Slugs = slices.Clone(b.Found), slices.Clone(b.Marked), slices.Clone(b.Slugs)
	return b
}

// act does an act, cent by cent, and returns the stand then, and the plays that were bought.
func act(w api.Wheel, s api.Stand, a int) (after api.Stand, bought int) {
	if a < 0 {
		if s.Credit > 0 {
			s = api.Stand{Credit: s.Credit - 1}
		}
		return s, 0
	}
	for range w.Coins[a] {
		s.Place++
		if slices.Contains(w.Notches, s.Place) {
			bought++
		}
		if s.Place == w.Round {
			s.Place = 0
		}
	}
	s.Credit += bought
	return s, bought
}

// boughtBy returns how many plays a way buys.
func boughtBy(w api.Wheel, acts []int) int {
	var s api.Stand
	all := 0
	for _, a := range acts {
		after, bought := act(w, s, a)
		s, all = after, all+bought
	}
	return all
}

// ways goes on with each act that can be done, and puts down what all coins have bought when the last one is in; what was tried already is not tried again.
func ways(w api.Wheel, s api.Stand, left []int, bought int, tried map[string]bool, down map[int]bool) {
	key := fmt.Sprint(s, left, bought)
	if tried[key] {
		return
	}
	tried[key] = true
	if countOf(left) == 0 {
		down[bought] = true
		return
	}
	if s.Credit > 0 {
		after, _ := act(w, s, -1)
		ways(w, after, left, bought, tried, down)
	}
	for kind, n := range left {
		if n > 0 {
			rest := slices.Clone(left)
			rest[kind]--
			after, plays := act(w, s, kind)
			ways(w, after, rest, bought+plays, tried, down)
		}
	}
}

// canBy returns all numbers of plays that ways to put a purse in buy, ascending.
func canBy(w api.Wheel, purse []int) []int {
	down := map[int]bool{}
	ways(w, api.Stand{}, purse, 0, map[string]bool{}, down)
	return slices.Sorted(maps.Keys(down))
}

// inside returns how many coins and slugs of each kind are in a box.
func inside(b api.Box) []int { return together(b.Found, b.Slugs) }

// together returns the coins of two purses.
func together(a, b []int) []int {
	all := slices.Clone(a)
	for kind, n := range b {
		all[kind] += n
	}
	return all
}

func countOf(purse []int) int {
	n := 0
	for _, coins := range purse {
		n += coins
	}
	return n
}

func worthOf(w api.Wheel, purse []int) int {
	cents := 0
	for kind, n := range purse {
		cents += n * w.Coins[kind]
	}
	return cents
}

// pursesOf are all purses with at most so many coins together.
func pursesOf(kinds, most int) [][]int {
	purses := [][]int{{}}
	for range kinds {
		var longer [][]int
		for _, purse := range purses {
			for n := range most - countOf(purse) + 1 {
				longer = append(longer, append(slices.Clone(purse), n))
			}
		}
		purses = longer
	}
	return purses
}

// canShow returns whether the register of a box can show what it does if so many plays were bought.
func canShow(b api.Box, plays int) bool { return plays >= b.Plays && plays <= b.Plays+b.Skips }

// explainers returns all purses that are missing in an explanation.
func explainers(b api.Box) [][]int {
	var purses [][]int
	for _, purse := range pursesOf(len(b.Wheel.Coins), api.MaxMissing) {
		if slices.ContainsFunc(canBy(b.Wheel, together(inside(b), purse)), func(n int) bool { return canShow(b, n) }) {
			purses = append(purses, purse)
		}
	}
	return purses
}

// missingBy returns the least worth of some purses, at least one, and all kinds that are in those of this worth.
func missingBy(w api.Wheel, purses [][]int) (least int, which []int) {
	for i, purse := range purses {
		if cents := worthOf(w, purse); i == 0 || cents < least {
			least = cents
		}
	}
	for kind := range w.Coins {
		if slices.ContainsFunc(purses, func(purse []int) bool { return purse[kind] > 0 && worthOf(w, purse) == least }) {
			which = append(which, kind)
		}
	}
	return least, which
}

// explains returns whether a purse and acts are an explanation, with at most two acts for each coin.
func explains(b api.Box, purse, acts []int) bool {
	if len(purse) != len(b.Wheel.Coins) || countOf(purse) > api.MaxMissing {
		return false
	}
	put := make([]int, len(purse))
	for _, a := range acts {
		if a < -1 || a >= len(put) {
			return false
		}
		if a >= 0 {
			put[a]++
		}
	}
	return slices.Equal(put, together(inside(b), purse)) && len(acts) <= 2*countOf(put) && canShow(b, boughtBy(b.Wheel, acts))
}

// limits is what drawn boxes have at most.
type limits struct{ round, coin, kinds, put int }

var (
	// few are boxes with few coins, for which all ways can be tried.
	few = limits{round: 40, coin: 20, kinds: 3, put: 4}
	// dear are boxes each coin of which goes round, most often more than once.
	dear = limits{round: 15, coin: 30, kinds: 3, put: 3}
	// many are boxes up to the limits.
	many = limits{round: api.MaxRound, coin: api.MaxCoin, kinds: api.MaxKinds, put: api.MaxPut}
)

// drawn are so many boxes, the same ones in each run.
func drawn(count int, l limits) iter.Seq2[api.Box, *rand.Rand] {
	return func(yield func(api.Box, *rand.Rand) bool) {
		draw := rand.New(rand.NewPCG(5, uint64(l.round)))
		for range count {
			if !yield(drawBox(draw, l), draw) {
				return
			}
		}
	}
}

// drawBox draws a box whose register shows about what one way to put in its coins, its slugs, and most often some more coins buys.
func drawBox(draw *rand.Rand, l limits) api.Box {
	round := 1 + draw.IntN(l.round)
	w := wheel(round, some(draw, draw.IntN(api.MaxNotches+1), round), some(draw, 1+draw.IntN(l.kinds), l.coin))
	b := box(w, 0, make([]int, len(w.Coins))...)
	for range draw.IntN(l.put + 1) {
		kind := draw.IntN(len(b.Found))
		if draw.IntN(4) == 0 {
			b.Slugs[kind]++
			continue
		}
		b.Found[kind]++
		b.Marked[kind] += draw.IntN(2)
	}
	purse := inside(b)
	for range draw.IntN(api.MaxMissing + 1) {
		purse[draw.IntN(len(purse))]++
	}
	b.Plays = boughtBy(w, drawWay(draw, purse))
	if draw.IntN(3) == 0 {
		b.Skips = draw.IntN(api.MaxSkips + 1)
		b.Plays = max(0, b.Plays-draw.IntN(b.Skips+1))
	}
	if draw.IntN(3) == 0 {
		b.Plays = max(0, b.Plays+draw.IntN(5)-2)
	}
	return b
}

// drawWay draws a way to put a purse in.
func drawWay(draw *rand.Rand, purse []int) []int {
	var kinds []int
	for kind, n := range purse {
		kinds = append(kinds, slices.Repeat([]int{kind}, n)...)
	}
	var acts []int
	often := draw.IntN(3)
	for _, i := range draw.Perm(len(kinds)) {
		acts = append(acts, slices.Repeat([]int{-1}, draw.IntN(often+1))...)
		acts = append(acts, kinds[i])
	}
	return acts
}

// some draws at most so many different numbers from 1 to high, ascending.
func some(draw *rand.Rand, count, high int) []int {
	l := draw.Perm(high)
	l = l[:min(count, high)]
	for i := range l {
		l[i]++
	}
	slices.Sort(l)
	return l
}
