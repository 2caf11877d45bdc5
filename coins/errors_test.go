package coins_test

import (
	"math"
	"slices"
	"testing"

	"shellac/api"
	"shellac/coins"
)

// numbersUpTo returns all numbers from 1 to n.
func numbersUpTo(n int) []int {
	l := make([]int, n)
	for i := range l {
		l[i] = i + 1
	}
	return l
}

func invalidWheels() []api.Wheel {
	return []api.Wheel{
		{},
		wheel(0, nil, []int{1}),
		wheel(-1, nil, nil),
		wheel(api.MaxRound+1, nil, nil),
		wheel(math.MinInt, nil, nil),
		wheel(math.MaxInt, []int{5}, []int{5}),
		wheel(5, []int{0}, nil),
		wheel(5, []int{0, 1}, nil),
		wheel(5, []int{-1}, nil),
		wheel(5, []int{6}, nil),
		wheel(5, []int{1, 5, 6}, nil),
		wheel(5, []int{2, 2}, nil),
		wheel(5, []int{3, 2}, nil),
		wheel(5, []int{1, 3, 3}, nil),
		wheel(5, []int{1, 4, 3}, nil),
		wheel(5, []int{math.MaxInt}, nil),
		wheel(5, []int{math.MinInt, 1}, nil),
		wheel(50, numbersUpTo(api.MaxNotches+1), []int{1}),
		wheel(200, numbersUpTo(200), []int{1}),
		wheel(5, nil, []int{0}),
		wheel(5, nil, []int{-5, 5}),
		wheel(5, nil, []int{api.MaxCoin + 1}),
		wheel(5, nil, []int{1, api.MaxCoin, api.MaxCoin + 1}),
		wheel(5, nil, []int{5, 5}),
		wheel(5, nil, []int{6, 5}),
		wheel(5, nil, []int{1, 3, 2}),
		wheel(5, nil, numbersUpTo(api.MaxKinds+1)),
		wheel(5, nil, []int{math.MaxInt}),
	}
}

func validWheels() []api.Wheel {
	return []api.Wheel{
		wheelW(), wheelV(), wheelU(), widest(),
		wheel(1, nil, nil),
		wheel(1, []int{1}, []int{1}),
		wheel(api.MaxRound, nil, nil),
		wheel(12, numbersUpTo(api.MaxNotches), numbersUpTo(api.MaxKinds)),
		wheel(api.MaxRound, []int{1, api.MaxRound}, []int{1, api.MaxCoin}),
		wheel(5, []int{5}, []int{api.MaxCoin - 1, api.MaxCoin}),
		wheel(5, []int{}, []int{}),
	}
}

// answer is the error of a function, and whether all its other results are zero values.
type answer struct {
	e    api.Errno
	zero bool
}

// answersOf returns what each function but Check says of arguments, all of which are given to it.
func answersOf(w api.Wheel, s api.Stand, list, purse []int, plays int, l []api.Seen) map[string]answer {
	all := map[string]answer{}
	after, made, e := coins.Run(w, s, list)
	all["Run"] = answer{e, after == api.Stand{} && made == 0}
	addNumber := func(name string, n int, e api.Errno) { all[name] = answer{e, n == 0} }
	addList := func(name string, l []int, e api.Errno) { all[name] = answer{e, len(l) == 0} }
	n, e := coins.Plays(w, s.Place, list)
	addNumber("Plays", n, e)
	n, e = coins.Most(w, purse)
	addNumber("Most", n, e)
	n, e = coins.Least(w, purse)
	addNumber("Least", n, e)
	acts, e := coins.Order(w, purse)
	addList("Order", acts, e)
	n, e = coins.Wasted(w, purse)
	addNumber("Wasted", n, e)
	n, e = coins.Cheapest(w, plays)
	addNumber("Cheapest", n, e)
	places, e := coins.Could(w, l)
	addList("Could", places, e)
	places, e = coins.Now(w, l)
	addList("Now", places, e)
	kinds, e := coins.Tell(w)
	addList("Tell", kinds, e)
	return all
}

// P1.1: which wheels are valid.
func TestCheck(t *testing.T) {
	for i, w := range validWheels() {
		if e := coins.Check(w); e != api.OK {
			t.Errorf("valid wheel %d: Check = %d", i, e)
		}
	}
	for i, w := range invalidWheels() {
		if e := coins.Check(w); e != api.ErrWheel {
			t.Errorf("invalid wheel %d: Check = %d", i, e)
		}
	}
}

// P1.1, R1, R2: an invalid wheel comes before an invalid argument, and before ErrNone; nothing else is said of it.
func TestInvalidWheelComesFirst(t *testing.T) {
	for i, w := range invalidWheels() {
		purse := slices.Repeat([]int{1}, len(w.Coins))
		for name, a := range answersOf(w, stand(0, 0), nil, purse, 1, nil) {
			if a.e != api.ErrWheel || !a.zero {
				t.Errorf("invalid wheel %d: %s: %d, zero: %t", i, name, a.e, a.zero)
			}
		}
		for name, a := range answersOf(w, stand(-1, -1), []int{-2}, []int{-1}, 0, seen(-1, -1)) {
			if a.e != api.ErrWheel || !a.zero {
				t.Errorf("invalid wheel %d, invalid arguments: %s: %d, zero: %t", i, name, a.e, a.zero)
			}
		}
	}
}

// R1: an invalid argument comes before ErrNone.
func TestInvalidArgumentComesBeforeNone(t *testing.T) {
	w := wheel(4, nil, []int{3})
	for _, plays := range []int{0, -1, api.MaxPlays + 1} {
		if _, e := coins.Cheapest(w, plays); e != api.ErrArg {
			t.Errorf("Cheapest of %d: %d", plays, e)
		}
	}
	for _, l := range [][]api.Seen{seen(0, 1, 1, 0), seen(0, 1, 0, 2401), seen(0, 1, -1, 0), slices.Repeat(seen(0, 1), api.MaxSeen+1)} {
		if _, e := coins.Could(w, l); e != api.ErrArg {
			t.Errorf("Could of %v: %d", l, e)
		}
		if _, e := coins.Now(w, l); e != api.ErrArg {
			t.Errorf("Now of %v: %d", l, e)
		}
	}
}

// P1.2: the stands and acts that are none, and those that just are.
func TestRunArguments(t *testing.T) {
	w := wheelW()
	for i, x := range []struct {
		s    api.Stand
		acts []int
		want api.Errno
	}{
		{stand(0, 0), nil, api.OK},
		{stand(49, 0), nil, api.OK},
		{stand(0, api.MaxPlays), nil, api.OK},
		{stand(0, 0), []int{-1, 0, 1, 2}, api.OK},
		{stand(0, 0), slices.Repeat([]int{-1}, api.MaxSeen), api.OK},
		{stand(0, 0), slices.Repeat([]int{2}, api.MaxSeen), api.OK},
		{stand(-1, 0), nil, api.ErrArg},
		{stand(50, 0), nil, api.ErrArg},
		{stand(math.MaxInt, 0), []int{0}, api.ErrArg},
		{stand(0, -1), nil, api.ErrArg},
		{stand(0, api.MaxPlays+1), nil, api.ErrArg},
		{stand(0, math.MinInt), []int{-1}, api.ErrArg},
		{stand(5, 5), []int{-2}, api.ErrArg},
		{stand(5, 5), []int{0, 3}, api.ErrArg},
		{stand(5, 5), []int{-1, math.MaxInt}, api.ErrArg},
		{stand(5, 5), make([]int, api.MaxSeen+1), api.ErrArg},
		{stand(5, 5), slices.Repeat([]int{-1}, api.MaxSeen+1), api.ErrArg},
	} {
		after, made, e := coins.Run(w, x.s, x.acts)
		if e != x.want || e != api.OK && (after != api.Stand{} || made != 0) {
			t.Errorf("%d: Run = %v, %d, %d", i, after, made, e)
		}
	}
	if _, _, e := coins.Run(wheel(5, nil, nil), stand(0, 0), []int{0}); e != api.ErrArg {
		t.Errorf("Run of a wheel without coins: %d", e)
	}
}

// P1.3: the places and kinds that are none, and those that just are.
func TestPlaysArguments(t *testing.T) {
	for i, x := range []struct {
		place int
		kinds []int
		want  api.Errno
	}{
		{0, nil, api.OK},
		{49, []int{0, 1, 2}, api.OK},
		{0, make([]int, api.MaxSeen), api.OK},
		{-1, nil, api.ErrArg},
		{50, nil, api.ErrArg},
		{math.MaxInt, []int{0}, api.ErrArg},
		{math.MinInt, []int{0}, api.ErrArg},
		{5, []int{-1}, api.ErrArg},
		{5, []int{2, 3}, api.ErrArg},
		{5, []int{math.MinInt}, api.ErrArg},
		{5, slices.Repeat([]int{2}, api.MaxSeen+1), api.ErrArg},
	} {
		plays, e := coins.Plays(wheelW(), x.place, x.kinds)
		if e != x.want || e != api.OK && plays != 0 {
			t.Errorf("%d: Plays = %d, %d", i, plays, e)
		}
	}
}

// P1.4, P1.5, P1.6: the purses that are none, and those that just are.
func TestPurses(t *testing.T) {
	for i, x := range []struct {
		w     api.Wheel
		purse []int
		want  api.Errno
	}{
		{wheelW(), []int{0, 0, 0}, api.OK},
		{wheelW(), []int{0, api.MaxPut, 0}, api.OK},
		{wheelW(), []int{4, 4, 4}, api.OK},
		{wheel(5, []int{1}, nil), nil, api.OK},
		{wheel(5, []int{1}, nil), []int{0}, api.ErrArg},
		{wheelW(), nil, api.ErrArg},
		{wheelW(), []int{1, 1}, api.ErrArg},
		{wheelW(), []int{1, 1, 1, 0}, api.ErrArg},
		{wheelW(), []int{-1, 2, 2}, api.ErrArg},
		{wheelW(), []int{2, 2, -1}, api.ErrArg},
		{wheelW(), []int{0, api.MaxPut + 1, 0}, api.ErrArg},
		{wheelW(), []int{api.MaxPut + 1, -1, 0}, api.ErrArg},
		{wheelW(), []int{5, 4, 4}, api.ErrArg},
		{wheelW(), []int{1, api.MaxPut, 0}, api.ErrArg},
		{wheelW(), []int{math.MaxInt, 1, math.MaxInt}, api.ErrArg},
		{wheelW(), []int{math.MinInt, math.MinInt, 1}, api.ErrArg},
	} {
		most, e := coins.Most(x.w, x.purse)
		least, f := coins.Least(x.w, x.purse)
		acts, g := coins.Order(x.w, x.purse)
		wasted, h := coins.Wasted(x.w, x.purse)
		if e != x.want || f != x.want || g != x.want || h != x.want {
			t.Errorf("%d: Most: %d; Least: %d; Order: %d; Wasted: %d", i, e, f, g, h)
		}
		if x.want != api.OK && (most != 0 || least != 0 || len(acts) != 0 || wasted != 0) {
			t.Errorf("%d: Most = %d; Least = %d; Order = %v; Wasted = %d with an error", i, most, least, acts, wasted)
		}
	}
}

// P1.7: the numbers of plays that are none, and those that just are.
func TestCheapestArguments(t *testing.T) {
	for _, plays := range []int{1, api.MaxPlays} {
		if _, e := coins.Cheapest(wheelW(), plays); e != api.OK {
			t.Errorf("Cheapest of %d: %d", plays, e)
		}
	}
	for _, plays := range []int{0, -1, api.MaxPlays + 1, math.MaxInt, math.MinInt} {
		if cents, e := coins.Cheapest(wheelW(), plays); e != api.ErrArg || cents != 0 {
			t.Errorf("Cheapest of %d = %d, %d", plays, cents, e)
		}
	}
}

// P1.8, P1.9: what cannot have been seen, and what just can.
func TestSeenArguments(t *testing.T) {
	for i, x := range []struct {
		l    []api.Seen
		want api.Errno
	}{
		{seen(0, 0, 1, 1, 2, 2), api.OK},
		{slices.Repeat(seen(0, 0), api.MaxSeen), api.ErrNone},
		{seen(0, 2400), api.ErrNone},
		{seen(-1, 0), api.ErrArg},
		{seen(3, 0), api.ErrArg},
		{seen(0, -1), api.ErrArg},
		{seen(0, 2401), api.ErrArg},
		{seen(0, math.MaxInt), api.ErrArg},
		{seen(math.MaxInt, 0), api.ErrArg},
		{seen(0, 0, math.MinInt, math.MinInt), api.ErrArg},
		{slices.Repeat(seen(0, 0), api.MaxSeen+1), api.ErrArg},
	} {
		could, e := coins.Could(wheelW(), x.l)
		now, f := coins.Now(wheelW(), x.l)
		if e != x.want || f != x.want || x.want != api.OK && len(could)+len(now) > 0 {
			t.Errorf("%d: Could = %v, %d; Now = %v, %d", i, could, e, now, f)
		}
	}
	if _, e := coins.Could(wheel(5, nil, nil), seen(0, 0)); e != api.ErrArg {
		t.Errorf("Could of a wheel without coins: %d", e)
	}
	// so many coins that give nothing can have been seen
	if could, e := coins.Could(wheel(50, nil, []int{5}), slices.Repeat(seen(0, 0), api.MaxSeen)); e != api.OK || len(could) != 50 {
		t.Errorf("Could = %v, %d", could, e)
	}
}
