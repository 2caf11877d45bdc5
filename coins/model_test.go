package coins_test

import (
	"iter"
	"math/rand/v2"
	"slices"

	"shellac/api"
)

// This file is a second wheel, as slow and as close to the words of the chapter as can be: the tests compare the package with it.

func wheel(round int, notches, coins []int) api.Wheel {
	return api.Wheel{Round: round, Notches: notches, Coins: coins}
}

// wheelW, wheelV and wheelU are the wheels of the chapter's examples.
func wheelW() api.Wheel { return wheel(50, []int{10, 20, 25}, []int{5, 10, 25}) }

func wheelV() api.Wheel { return wheel(25, []int{10, 20, 25}, []int{5, 10, 25}) }

func wheelU() api.Wheel { return wheel(5, []int{2, 3}, []int{1, 2}) }

// widest is a wheel with all that the limits allow.
func widest() api.Wheel {
	return wheel(200, []int{7, 31, 32, 58, 74, 99, 100, 101, 150, 163, 199, 200}, []int{1, 37, 71, 100})
}

func stand(place, credit int) api.Stand { return api.Stand{Place: place, Credit: credit} }

// seen returns kinds and plays, in turns, as coins that were seen.
func seen(l ...int) []api.Seen {
	var out []api.Seen
	for i := 0; i < len(l); i += 2 {
		out = append(out, api.Seen{Kind: l[i], Plays: l[i+1]})
	}
	return out
}

// turn puts so many cents in, one by one, and returns the place then and the plays.
func turn(w api.Wheel, place, cents int) (after, plays int) {
	for range cents {
		place++
		if slices.Contains(w.Notches, place) {
			plays++
		}
		if place == w.Round {
			place = 0
		}
	}
	return place, plays
}

// act does an act and returns the stand then, the plays that were bought, and whether a selection was made.
func act(w api.Wheel, s api.Stand, a int) (after api.Stand, bought int, made bool) {
	if a >= 0 {
		place, plays := turn(w, s.Place, w.Coins[a])
		return stand(place, s.Credit+plays), plays, false
	}
	if s.Credit == 0 {
		return s, 0, false
	}
	return stand(0, s.Credit-1), 0, true
}

// boughtBy returns how many plays a way buys.
func boughtBy(w api.Wheel, acts []int) int {
	s, all := stand(0, 0), 0
	for _, a := range acts {
		after, bought, _ := act(w, s, a)
		s, all = after, all+bought
	}
	return all
}

// ways calls back with what each way to put a purse in buys. (Two selections one after the other only lose credit: there are none.)
func ways(w api.Wheel, s api.Stand, purse []int, bought int, back func(plays int)) {
	if countOf(purse) == 0 {
		back(bought)
		return
	}
	for kind, n := range purse {
		if n == 0 {
			continue
		}
		rest := slices.Clone(purse)
		rest[kind]--
		after, plays, _ := act(w, s, kind)
		ways(w, after, rest, bought+plays, back)
		if selected, _, made := act(w, after, -1); made {
			ways(w, selected, rest, bought+plays, back)
		}
	}
}

// mostAndLeast returns how many plays the best and the worst way to put a purse in buy.
func mostAndLeast(w api.Wheel, purse []int) (most, least int) {
	most, least = -1, -1
	ways(w, stand(0, 0), purse, 0, func(plays int) {
		most = max(most, plays)
		if least < 0 || plays < least {
			least = plays
		}
	})
	return most, least
}

func countOf(purse []int) int {
	n := 0
	for _, coins := range purse {
		n += coins
	}
	return n
}

func worthOf(w api.Wheel, purse []int) int {
	cents := 0
	for kind, n := range purse {
		cents += n * w.Coins[kind]
	}
	return cents
}

// parts are all purses with at most as many coins of each kind.
func parts(purse []int) [][]int {
	all := [][]int{{}}
	for _, n := range purse {
		var longer [][]int
		for _, part := range all {
			for left := range n + 1 {
				longer = append(longer, append(slices.Clone(part), left))
			}
		}
		all = longer
	}
	return all
}

// wastedBy returns the greatest worth that can be taken out of a purse such that the best way buys as much.
func wastedBy(w api.Wheel, purse []int) int {
	most, _ := mostAndLeast(w, purse)
	wasted := 0
	for _, part := range parts(purse) {
		if plays, _ := mostAndLeast(w, part); plays == most {
			wasted = max(wasted, worthOf(w, purse)-worthOf(w, part))
		}
	}
	return wasted
}

// point is what can be after some cents: a stand, and how many plays were bought.
type point struct {
	api.Stand
	bought int
}

// cheapestBy returns for each number of plays up to most how many cents buy as many at the least, or -1 if no more than limit cents do: all points after each sum of cents.
func cheapestBy(w api.Wheel, most, limit int) []int {
	least := slices.Repeat([]int{-1}, most+1)
	points := make([]map[point]bool, limit+1)
	points[0] = map[point]bool{{}: true}
	for cents := range points {
		for _, worth := range w.Coins {
			if cents < worth {
				continue
			}
			for p := range points[cents-worth] {
				place, plays := turn(w, p.Place, worth)
				bought := min(p.bought+plays, most)
				credit := min(p.Credit+plays, most)
				if points[cents] == nil {
					points[cents] = map[point]bool{}
				}
				points[cents][point{stand(place, credit), bought}] = true
				if credit > 0 {
					points[cents][point{stand(0, credit-1), bought}] = true
				}
			}
		}
		for p := range points[cents] {
			for n := range p.bought + 1 {
				if least[n] < 0 {
					least[n] = cents
				}
			}
		}
	}
	return least
}

// whereBy returns all places at which the wheel can have stood before what was seen, and all at which it can stand after it, both ascending.
func whereBy(w api.Wheel, seen []api.Seen) (could, now []int) {
	for place := range w.Round {
		at, agrees := place, true
		for _, s := range seen {
			after, plays := turn(w, at, w.Coins[s.Kind])
			at = after
			agrees = agrees && plays == s.Plays
		}
		if agrees {
			could = append(could, place)
			now = append(now, at)
		}
	}
	slices.Sort(now)
	return could, slices.Compact(now)
}

// watch returns what is seen of coins that are put in from a place on, and where the wheel stands then.
func watch(w api.Wheel, place int, kinds []int) (l []api.Seen, after int) {
	for _, kind := range kinds {
		next, plays := turn(w, place, w.Coins[kind])
		l = append(l, api.Seen{Kind: kind, Plays: plays})
		place = next
	}
	return l, place
}

// tellsBy returns whether one knows where the wheel stands after coins of these kinds, wherever it stood.
func tellsBy(w api.Wheel, kinds []int) bool {
	for place := range w.Round {
		l, _ := watch(w, place, kinds)
		if _, now := whereBy(w, l); len(now) != 1 {
			return false
		}
	}
	return true
}

// listsOf are all lists of so many kinds.
func listsOf(w api.Wheel, length int) [][]int {
	lists := [][]int{nil}
	for range length {
		var longer [][]int
		for _, list := range lists {
			for kind := range w.Coins {
				longer = append(longer, append(slices.Clone(list), kind))
			}
		}
		lists = longer
	}
	return lists
}

// smallWheels are all wheels with a Round of at most 5 and at most two kinds of some coins.
func smallWheels() iter.Seq[api.Wheel] {
	return func(yield func(api.Wheel) bool) {
		for round := 1; round <= 5; round++ {
			for bits := range 1 << round {
				var notches []int
				for n := range round {
					if bits>>n&1 == 1 {
						notches = append(notches, n+1)
					}
				}
				for _, coins := range [][]int{nil, {1}, {2}, {3}, {7}, {1, 2}, {1, 3}, {2, 3}, {2, 7}, {3, 4}} {
					if !yield(wheel(round, notches, coins)) {
						return
					}
				}
			}
		}
	}
}

// drawn are so many wheels of all sizes up to a Round, the same ones in each run.
func drawn(count, round, coin int) iter.Seq2[api.Wheel, *rand.Rand] {
	return func(yield func(api.Wheel, *rand.Rand) bool) {
		draw := rand.New(rand.NewPCG(1, uint64(round)))
		for range count {
			size := 1 + draw.IntN(round)
			w := wheel(size, some(draw, draw.IntN(api.MaxNotches+1), size), some(draw, 1+draw.IntN(api.MaxKinds), coin))
			if !yield(w, draw) {
				return
			}
		}
	}
}

// some draws at most so many different numbers from 1 to high, ascending.
func some(draw *rand.Rand, count, high int) []int {
	l := draw.Perm(high)
	l = l[:min(count, high)]
	for i := range l {
		l[i]++
	}
	slices.Sort(l)
	return l
}

// drawPurse draws a purse of at most so many coins.
func drawPurse(draw *rand.Rand, w api.Wheel, coins int) []int {
	purse := make([]int, len(w.Coins))
	for range draw.IntN(coins + 1) {
		purse[draw.IntN(len(purse))]++
	}
	return purse
}

// drawKinds draws a list of so many kinds.
func drawKinds(draw *rand.Rand, w api.Wheel, length int) []int {
	kinds := make([]int, length)
	for i := range kinds {
		kinds[i] = draw.IntN(len(w.Coins))
	}
	return kinds
}
