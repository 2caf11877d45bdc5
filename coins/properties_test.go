package coins_test

import (
	"slices"
	"testing"

	"shellac/api"
	"shellac/coins"
)

// number returns the result of a call that must be without an error.
func number(t *testing.T, n int, e api.Errno) int {
	t.Helper()
	if e != api.OK {
		t.Errorf("error %d", e)
	}
	return n
}

func most(t *testing.T, w api.Wheel, purse []int) int {
	t.Helper()
	n, e := coins.Most(w, purse)
	return number(t, n, e)
}

func plays(t *testing.T, w api.Wheel, place int, kinds []int) int {
	t.Helper()
	n, e := coins.Plays(w, place, kinds)
	return number(t, n, e)
}

// cheapest returns Cheapest, or a number above all of them if there is none.
func cheapest(t *testing.T, w api.Wheel, count int) int {
	t.Helper()
	n, e := coins.Cheapest(w, count)
	if e == api.ErrNone {
		return 1 << 20
	}
	return number(t, n, e)
}

// P1.11 (sums): Plays depends on the worth of all coins alone, and can be cut in two.
func TestSums(t *testing.T) {
	for w, draw := range drawn(200, api.MaxRound, api.MaxCoin) {
		kinds := drawKinds(draw, w, draw.IntN(api.MaxSeen+1))
		place := draw.IntN(w.Round)
		all := plays(t, w, place, kinds)
		cut := draw.IntN(len(kinds) + 1)
		after, _, e := coins.Run(w, stand(place, 0), kinds[:cut])
		if e != api.OK || plays(t, w, place, kinds[:cut])+plays(t, w, after.Place, kinds[cut:]) != all {
			t.Errorf("Plays of %v, %d, %v is not that of both parts", w, place, kinds)
		}
		mixed := slices.Clone(kinds)
		draw.Shuffle(len(mixed), func(i, j int) { mixed[i], mixed[j] = mixed[j], mixed[i] })
		if plays(t, w, place, mixed) != all {
			t.Errorf("Plays of %v, %d, %v and %v differ", w, place, kinds, mixed)
		}
	}
	// coins of another kind, but the same worth
	if a, b := plays(t, wheelW(), 13, []int{2, 2}), plays(t, wheelW(), 13, []int{1, 1, 1, 0, 1, 0}); a != b {
		t.Errorf("Plays of 50 cents: %d and %d", a, b)
	}
	for round := 1; round <= api.MaxCoin; round++ {
		w := wheel(round, numbersUpTo(min(round, api.MaxNotches)), []int{round})
		for place := range round {
			if n := plays(t, w, place, []int{0}); n != len(w.Notches) {
				t.Errorf("Plays of %v, %d = %d", w, place, n)
			}
		}
	}
}

// P1.12 (any way): drawn ways of large purses do not buy more than Most or less than Least, and Order buys Most.
func TestAnyWay(t *testing.T) {
	for w, draw := range drawn(40, api.MaxRound, api.MaxCoin) {
		purse := drawPurse(draw, w, api.MaxPut)
		best := most(t, w, purse)
		least, e := coins.Least(w, purse)
		worst := number(t, least, e)
		checkOrder(t, w, purse, best)
		var bag []int
		for kind, n := range purse {
			bag = append(bag, slices.Repeat([]int{kind}, n)...)
		}
		for range 50 {
			draw.Shuffle(len(bag), func(i, j int) { bag[i], bag[j] = bag[j], bag[i] })
			var acts []int
			for _, kind := range bag {
				acts = append(acts, kind)
				for draw.IntN(3) == 0 {
					acts = append(acts, -1)
				}
			}
			if n := boughtBy(w, acts); n > best || n < worst {
				t.Errorf("the way %v of %v buys %d, not from %d to %d", acts, w, n, worst, best)
			}
		}
	}
}

// P1.13 (more coins): one more coin or notch does not make Most less, nor a notch Cheapest greater.
func TestMoreCoins(t *testing.T) {
	for w, draw := range drawn(60, 100, 50) {
		purse := drawPurse(draw, w, 6)
		before := most(t, w, purse)
		for kind := range purse {
			larger := slices.Clone(purse)
			larger[kind]++
			if n := most(t, w, larger); n < before {
				t.Errorf("Most of %v, %v is %d, of %v %d", w, purse, before, larger, n)
			}
		}
		notch := 1 + draw.IntN(w.Round)
		if len(w.Notches) == api.MaxNotches || slices.Contains(w.Notches, notch) {
			continue
		}
		notches := append(slices.Clone(w.Notches), notch)
		slices.Sort(notches)
		denser := wheel(w.Round, notches, w.Coins)
		if n := most(t, denser, purse); n < before {
			t.Errorf("Most of %v, %v is %d, with %v %d", w, purse, before, notches, n)
		}
		for count := 1; count <= 8; count++ {
			if a, b := cheapest(t, w, count), cheapest(t, denser, count); b > a {
				t.Errorf("Cheapest of %v, %d is %d, with %v %d", w, count, a, notches, b)
			}
		}
	}
}

// P1.14 (wasted): Wasted is the worth of a part, and without more than it Most is less.
func TestWasted(t *testing.T) {
	for w, draw := range drawn(60, 100, 40) {
		purse := drawPurse(draw, w, 7)
		cents, e := coins.Wasted(w, purse)
		wasted := number(t, cents, e)
		all, worth := most(t, w, purse), worthOf(w, purse)
		found := false
		for _, part := range parts(purse) {
			spared := worth - worthOf(w, part)
			buys := most(t, w, part)
			found = found || spared == wasted && buys == all
			if spared > wasted && buys >= all {
				t.Errorf("Wasted of %v, %v is %d, but %v buys as much", w, purse, wasted, part)
			}
		}
		if !found {
			t.Errorf("Wasted of %v, %v is %d, which is not the worth of coins that can be kept", w, purse, wasted)
		}
	}
}

// P1.15 (cheapest): no purse is cheaper, more plays are not, and both at once are not dearer.
func TestCheapestProperties(t *testing.T) {
	for w, draw := range drawn(60, 100, 40) {
		var costs []int
		for count := 1; count <= api.MaxPlays; count++ {
			costs = append(costs, cheapest(t, w, count))
		}
		if !slices.IsSorted(costs) {
			t.Errorf("Cheapest of %v: %v", w, costs)
		}
		for a := 1; a <= api.MaxPlays; a++ {
			for b := 1; a+b <= api.MaxPlays; b++ {
				if costs[a+b-1] > costs[a-1]+costs[b-1] {
					t.Errorf("Cheapest of %v: %d and %d together are dearer: %v", w, a, b, costs)
				}
			}
		}
		for range 5 {
			purse := drawPurse(draw, w, 6)
			for count := 1; count <= min(most(t, w, purse), api.MaxPlays); count++ {
				if worthOf(w, purse) < costs[count-1] {
					t.Errorf("%v buys %d on %v: Cheapest is %d", purse, count, w, costs[count-1])
				}
			}
		}
	}
}

// P1.16 (seen): the true place is in Could, the one after it in Now, and one more coin brings no place into Could.
func TestSeen(t *testing.T) {
	for w, draw := range drawn(150, api.MaxRound, api.MaxCoin) {
		place := draw.IntN(w.Round)
		l, _ := watch(w, place, drawKinds(draw, w, draw.IntN(api.MaxSeen+1)))
		var before []int
		for n := range len(l) + 1 {
			_, at := watch(w, place, kindsOf(l[:n]))
			could, e := coins.Could(w, l[:n])
			now, f := coins.Now(w, l[:n])
			if e != api.OK || !slices.Contains(could, place) || f != api.OK || !slices.Contains(now, at) {
				t.Errorf("of %v, %v from %d: Could = %v, %d; Now = %v, %d", w, l[:n], place, could, e, now, f)
			}
			for _, p := range could {
				if n > 0 && !slices.Contains(before, p) {
					t.Errorf("of %v, %v: Could has %d, which it had not before", w, l[:n], p)
				}
			}
			if !slices.IsSorted(could) || !slices.IsSorted(now) || len(could) != len(now) {
				t.Errorf("of %v, %v: Could = %v; Now = %v", w, l[:n], could, now)
			}
			before = could
		}
	}
}

func kindsOf(l []api.Seen) []int {
	var kinds []int
	for _, s := range l {
		kinds = append(kinds, s.Kind)
	}
	return kinds
}

// P1.17 (told): whatever is seen of the coins of Tell, Now has just one place.
func TestTold(t *testing.T) {
	told := 0
	for w := range drawn(150, 30, api.MaxCoin) {
		kinds, e := coins.Tell(w)
		if e == api.ErrNone {
			continue
		}
		told++
		for place := range w.Round {
			l, at := watch(w, place, kinds)
			if now, f := coins.Now(w, l); e != api.OK || f != api.OK || !slices.Equal(now, []int{at}) {
				t.Errorf("Tell of %v = %v, %d: from %d Now = %v, %d", w, kinds, e, place, now, f)
			}
		}
	}
	if told < 20 {
		t.Errorf("only %d wheels were told", told)
	}
}
