package coins_test

import (
	"fmt"
	"math"
	"slices"
	"testing"

	"shellac/api"
	"shellac/coins"
)

// answers returns all that the functions say of arguments, as one text.
func answers(w api.Wheel, s api.Stand, list, purse []int, plays int, l []api.Seen) string {
	after, made, runError := coins.Run(w, s, list)
	text := fmt.Sprint(coins.Check(w), after, made, runError)
	for _, of := range []func() (int, api.Errno){
		func() (int, api.Errno) { return coins.Plays(w, s.Place, list) },
		func() (int, api.Errno) { return coins.Most(w, purse) },
		func() (int, api.Errno) { return coins.Least(w, purse) },
		func() (int, api.Errno) { return coins.Wasted(w, purse) },
		func() (int, api.Errno) { return coins.Cheapest(w, plays) },
	} {
		n, e := of()
		text += fmt.Sprint(";", n, e)
	}
	for _, of := range []func() ([]int, api.Errno){
		func() ([]int, api.Errno) { return coins.Could(w, l) },
		func() ([]int, api.Errno) { return coins.Now(w, l) },
	} {
		list, e := of()
		text += fmt.Sprint(";", list, e)
	}
	// which example is returned is free, but not its length, nor whether there is one
	_, orderError := coins.Order(w, purse)
	tell, tellError := coins.Tell(w)
	return text + fmt.Sprint(";", orderError, len(tell), tellError)
}

// P1: every function returns, whatever it is given.
func TestAnyArguments(t *testing.T) {
	lists := [][]int{nil, {0}, {-1}, {-2, 4}, {math.MinInt, math.MaxInt}, {3, 3, 3, 3}, {math.MaxInt, math.MaxInt, math.MaxInt, 1}, make([]int, 1000)}
	stands := []api.Stand{stand(0, 0), stand(-1, 0), stand(199, 20), stand(math.MaxInt, math.MinInt), stand(math.MinInt, math.MaxInt)}
	sights := [][]api.Seen{nil, seen(0, 0), seen(-1, -1), seen(math.MaxInt, 0, 0, math.MinInt), seen(0, math.MaxInt), make([]api.Seen, 1000)}
	numbers := []int{0, 1, 20, -1, math.MaxInt, math.MinInt}
	for _, w := range append(validWheels(), invalidWheels()...) {
		for i, list := range lists {
			answers(w, stands[i%len(stands)], list, list, numbers[i%len(numbers)], sights[i%len(sights)])
		}
		for i, s := range stands {
			answers(w, s, lists[1], nil, numbers[i], sights[i])
		}
	}
}

// P1: the greatest wheel and the greatest purses are done in time.
func TestGreatestArguments(t *testing.T) {
	for _, purse := range [][]int{{3, 3, 3, 3}, {12, 0, 0, 0}, {0, 1, 5, 6}} {
		text := answers(widest(), stand(199, 20), slices.Repeat([]int{3}, api.MaxSeen), purse, api.MaxPlays, seen(3, 6, 2, 5))
		if text == "" {
			t.Errorf("no answers of %v", purse)
		}
	}
	for plays := 1; plays <= api.MaxPlays; plays++ {
		w := wheel(api.MaxRound, []int{api.MaxRound}, []int{api.MaxCoin - 1})
		// going around again is never dearer than a selection here, but the coins come out uneven
		want := (plays*api.MaxRound + api.MaxCoin - 2) / (api.MaxCoin - 1) * (api.MaxCoin - 1)
		if cents, e := coins.Cheapest(w, plays); cents != want || e != api.OK {
			t.Errorf("Cheapest of %d = %d, %d, not %d", plays, cents, e, want)
		}
	}
}

// R3: nil and empty lists are the same.
func TestNilAndEmpty(t *testing.T) {
	none, empty := wheel(3, nil, nil), wheel(3, []int{}, []int{})
	a := answers(none, stand(1, 1), nil, nil, 1, nil)
	b := answers(empty, stand(1, 1), []int{}, []int{}, 1, []api.Seen{})
	if a != b {
		t.Errorf("nil: %s; empty: %s", a, b)
	}
}

// padded returns a list with spare memory behind it, and all of the memory.
func padded[T any](list []T, pad T) (part, all []T) {
	all = append(slices.Clone(list), pad, pad, pad)
	return all[:len(list)], all
}

// R4: no argument is changed, nor the memory behind it.
func TestArgumentsStay(t *testing.T) {
	notches, allNotches := padded([]int{10, 20, 25}, 77)
	kinds, allKinds := padded([]int{5, 10, 25}, 77)
	list, allActs := padded([]int{0, 1, 2, 0}, 77)
	purse, allPurse := padded([]int{1, 2, 2}, 77)
	sights, allSights := padded(seen(0, 0, 1, 1), api.Seen{Kind: 77, Plays: 77})
	before := fmt.Sprint(allNotches, allKinds, allActs, allPurse, allSights)
	w := wheel(50, notches, kinds)
	answers(w, stand(3, 1), list, purse, 5, sights)
	for _, of := range []func() ([]int, api.Errno){
		func() ([]int, api.Errno) { return coins.Order(w, purse) },
		func() ([]int, api.Errno) { return coins.Could(w, sights) },
		func() ([]int, api.Errno) { return coins.Now(w, sights) },
		func() ([]int, api.Errno) { return coins.Tell(w) },
	} {
		l, _ := of()
		for i := range l {
			l[i] = 99
		}
	}
	if after := fmt.Sprint(allNotches, allKinds, allActs, allPurse, allSights); after != before {
		t.Errorf("changed from %s to %s", before, after)
	}
}

// R4: a result is new memory each time, and the same again.
func TestResultsAreNew(t *testing.T) {
	w := wheelU()
	for i, of := range []func() ([]int, api.Errno){
		func() ([]int, api.Errno) { return coins.Could(w, nil) },
		func() ([]int, api.Errno) { return coins.Now(w, nil) },
		func() ([]int, api.Errno) { return coins.Order(w, []int{2, 3}) },
		func() ([]int, api.Errno) { return coins.Tell(w) },
	} {
		first, _ := of()
		size := len(first)
		for j := range first {
			first[j] = 99
		}
		second, e := of()
		if e != api.OK || len(second) == 0 || slices.Contains(second, 99) || i < 2 && len(second) != size {
			t.Errorf("%d: %v, %d behind %v", i, second, e, first)
		}
	}
}

// No state is kept: what was asked before changes no answer.
func TestNoState(t *testing.T) {
	ask := func(w api.Wheel) string {
		return answers(w, stand(0, 2), []int{0, -1, 1}, []int{2, 2}, 4, seen(1, 1))
	}
	one, other := wheel(5, []int{2, 3}, []int{1, 2}), wheel(7, []int{1, 7}, []int{1, 2})
	a, b := ask(one), ask(other)
	if a == b {
		t.Errorf("two wheels answer the same: %s", a)
	}
	if again := ask(one); again != a {
		t.Errorf("first %s, then %s", a, again)
	}
}
