package coins

import "shellac/api"

// bag is how many coins there are of each kind.
type bag [api.MaxKinds]int

// spot is a point on a way: the coins that are left, and the stand of the wheel.
type spot struct {
	left bag
	api.Stand
}

// search looks for the best ways to put purses in.
type search struct {
	wheel
	better func(a, b int) bool // whether it is better to buy a plays than b
	known  map[spot]int        // how many plays the best way from a spot on buys
}

func more(a, b int) bool { return a > b }

func fewer(a, b int) bool { return a < b }

func newSearch(w wheel, better func(a, b int) bool) search {
	return search{wheel: w, better: better, known: map[spot]int{}}
}

// bagOf returns the coins of a purse, and whether the purse is one of the wheel.
func (w wheel) bagOf(purse []int) (b bag, ok bool) {
	if len(purse) != len(w.Coins) {
		return bag{}, false
	}
	for kind, n := range purse {
		if !isFrom(0, n, api.MaxPut) {
			return bag{}, false
		}
		b[kind] = n
	}
	return b, b.count() <= api.MaxPut
}

func (b bag) count() int {
	n := 0
	for _, coins := range b {
		n += coins
	}
	return n
}

// cents returns the worth of the coins of a bag.
func (w wheel) cents(b bag) int {
	sum := 0
	for kind, worth := range w.Coins {
		sum += b[kind] * worth
	}
	return sum
}

// can returns whether an act can be of use at a spot.
func (s search) can(at spot, act int) bool {
	if act == selection {
		return at.Credit > 0 && at.Place > 0
	}
	return at.left[act] > 0
}

// next returns the spot behind an act that can be done, and how many plays this buys.
func (s search) next(at spot, act int) (after spot, bought int) {
	stand, _ := s.do(at.Stand, act)
	after = spot{left: at.left, Stand: stand}
	if act == selection {
		return after, 0
	}
	after.left[act]--
	bought = stand.Credit - at.Credit
	// Each selection of use has a coin behind it: a greater credit makes no difference, and would only make more spots.
	after.Credit = min(stand.Credit, after.left.count())
	return after, bought
}

// best returns how many plays the best way from a spot on buys.
func (s search) best(from spot) int {
	if plays, ok := s.known[from]; ok {
		return plays
	}
	_, plays := s.choose(from)
	s.known[from] = plays
	return plays
}

// choose returns the first act of a best way from a spot on, and how many plays this way buys: none if no coin is left.
func (s search) choose(from spot) (first, plays int) {
	found := false
	// A selection comes last, so that it is chosen only where it is needed.
	for act := len(s.Coins) - 1; act >= selection; act-- {
		if !s.can(from, act) {
			continue
		}
		after, bought := s.next(from, act)
		all := bought + s.best(after)
		if !found || s.better(all, plays) {
			found, first, plays = true, act, all
		}
	}
	return first, plays
}

// buys returns how many plays the best way to put coins in buys.
func (s search) buys(b bag) int {
	return s.best(spot{left: b})
}

// way returns a best way to put coins in.
func (s search) way(b bag) []int {
	var acts []int
	at := spot{left: b}
	for at.left != (bag{}) {
		act, _ := s.choose(at)
		acts = append(acts, act)
		at, _ = s.next(at, act)
	}
	return acts
}

// wasted returns the greatest worth of coins without which a bag buys as much.
func (s search) wasted(all bag) int {
	plays, cents := s.buys(all), s.cents(all)
	kept := 0
	for _, part := range all.parts() {
		spared := cents - s.cents(part)
		if spared > kept && s.buys(part) == plays {
			kept = spared
		}
	}
	return kept
}

// parts returns all bags that can be left of a bag.
func (b bag) parts() []bag {
	parts := []bag{{}}
	for kind, n := range b {
		var longer []bag
		for _, part := range parts {
			for left := range n + 1 {
				part[kind] = left
				longer = append(longer, part)
			}
		}
		parts = longer
	}
	return parts
}
