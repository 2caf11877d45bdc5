package coins_test

import (
	"slices"
	"testing"

	"shellac/api"
	"shellac/coins"
)

// P1.2: the chapter's examples, and the edges: a coin that goes around, the notch Round, a selection without a credit.
func TestRun(t *testing.T) {
	for i, x := range []struct {
		w     api.Wheel
		s     api.Stand
		acts  []int
		after api.Stand
		made  int
	}{
		{wheelW(), stand(0, 0), []int{1, 0, 1}, stand(25, 3), 0},
		{wheelW(), stand(0, 0), []int{0, -1, 1, -1, 1}, stand(10, 1), 1},
		{wheelW(), stand(7, 3), nil, stand(7, 3), 0},
		{wheelW(), stand(7, 0), []int{-1, -1}, stand(7, 0), 0},
		{wheelW(), stand(7, 1), []int{-1, -1}, stand(0, 0), 1},
		{wheelW(), stand(7, 3), []int{-1, -1}, stand(0, 1), 2},
		{wheelW(), stand(0, 2), []int{-1}, stand(0, 1), 1},
		{wheelW(), stand(45, 0), []int{0}, stand(0, 0), 0},
		{wheelV(), stand(15, 0), []int{1}, stand(0, 2), 0},
		{wheelV(), stand(20, 4), []int{0}, stand(0, 5), 0},
		{wheelV(), stand(0, 0), []int{0}, stand(5, 0), 0},
		{wheelV(), stand(10, 0), []int{2}, stand(10, 3), 0},
		{wheel(3, []int{1, 3}, []int{100}), stand(1, 0), []int{0}, stand(2, 66), 0},
		{wheel(1, []int{1}, []int{3}), stand(0, 0), []int{0, -1, 0}, stand(0, 5), 1},
		{wheel(1, nil, []int{3}), stand(0, 0), []int{0, -1, 0}, stand(0, 0), 0},
		{wheel(1, []int{1}, []int{100}), stand(0, 20), make([]int, 20), stand(0, 2020), 0},
	} {
		after, made, e := coins.Run(x.w, x.s, x.acts)
		if after != x.after || made != x.made || e != api.OK {
			t.Errorf("%d: Run = %v, %d, %d", i, after, made, e)
		}
	}
}

// P1.2, P1.3: Run and Plays are what a wheel does that is turned cent by cent.
func TestRunAndPlaysCentByCent(t *testing.T) {
	for w, draw := range drawn(400, api.MaxRound, api.MaxCoin) {
		start := stand(draw.IntN(w.Round), draw.IntN(3))
		acts := drawKinds(draw, w, draw.IntN(api.MaxSeen+1))
		plays, place := 0, start.Place
		for _, kind := range acts {
			after, bought := turn(w, place, w.Coins[kind])
			place, plays = after, plays+bought
		}
		if n, e := coins.Plays(w, start.Place, acts); n != plays || e != api.OK {
			t.Errorf("Plays of %v, %d, %v = %d, %d, not %d", w, start.Place, acts, n, e, plays)
		}
		for i := range acts {
			if draw.IntN(3) == 0 {
				acts[i] = -1
			}
		}
		s, count := start, 0
		for _, a := range acts {
			after, _, made := act(w, s, a)
			s = after
			if made {
				count++
			}
		}
		if after, made, e := coins.Run(w, start, acts); after != s || made != count || e != api.OK {
			t.Errorf("Run of %v, %v, %v = %v, %d, %d, not %v, %d", w, start, acts, after, made, e, s, count)
		}
	}
}

// P1.3: the chapter's example, and the edges.
func TestPlays(t *testing.T) {
	for i, x := range []struct {
		w     api.Wheel
		place int
		kinds []int
		want  int
	}{
		{wheelW(), 20, []int{2, 2}, 3},
		{wheelW(), 0, nil, 0},
		{wheelW(), 10, nil, 0},
		{wheelW(), 25, []int{2}, 0},
		{wheelW(), 24, []int{0}, 1},
		{wheelW(), 9, []int{2}, 3},
		{wheelV(), 20, []int{0}, 1},
		{wheelV(), 24, []int{2, 2}, 6},
		{wheel(9, nil, []int{5}), 4, []int{0, 0}, 0},
		{wheel(1, []int{1}, []int{100}), 0, make([]int, 20), 2000},
	} {
		if n, e := coins.Plays(x.w, x.place, x.kinds); n != x.want || e != api.OK {
			t.Errorf("%d: Plays = %d, %d", i, n, e)
		}
	}
}

// P1.4, P1.6: the chapter's examples, and purses whose worst way needs just as many selections as there are plays for them.
func TestMostLeastWasted(t *testing.T) {
	for i, x := range []struct {
		w                   api.Wheel
		purse               []int
		most, least, wasted int
	}{
		{wheelW(), []int{0, 0, 2}, 6, 3, 0},
		{wheelW(), []int{1, 3, 0}, 4, 3, 0},
		{wheelW(), []int{1, 0, 1}, 3, 3, 5},
		{wheelW(), []int{0, 0, 0}, 0, 0, 0},
		{wheelW(), []int{1, 0, 0}, 0, 0, 5},
		{wheelW(), []int{4, 0, 0}, 2, 1, 0},
		{wheel(7, nil, nil), nil, 0, 0, 0},
		{wheel(7, nil, []int{2, 3}), []int{2, 2}, 0, 0, 10},
		// without a play there is no selection, and the second coin comes to the notch
		{wheel(10, []int{5}, []int{3}), []int{2}, 1, 1, 0},
		// the first coin gives two plays: the wheel can go back twice
		{wheel(20, []int{4, 5, 10}, []int{3, 5}), []int{2, 1}, 4, 2, 0},
		// once around the wheel is as good as a selection, and twice around is no better
		{wheel(10, []int{10}, []int{10}), []int{12}, 12, 12, 0},
		{wheel(100, []int{10}, []int{10}), []int{12}, 12, 2, 0},
		{wheel(1, []int{1}, []int{100}), []int{12}, 1200, 1200, 0},
	} {
		most, e := coins.Most(x.w, x.purse)
		least, f := coins.Least(x.w, x.purse)
		wasted, g := coins.Wasted(x.w, x.purse)
		if most != x.most || e != api.OK || least != x.least || f != api.OK || wasted != x.wasted || g != api.OK {
			t.Errorf("%d: Most = %d, %d; Least = %d, %d; Wasted = %d, %d", i, most, e, least, f, wasted, g)
		}
	}
}

// checkOrder reports an Order that is no way to put a purse in, has too many acts, or does not buy as much as it should.
func checkOrder(t *testing.T, w api.Wheel, purse []int, most int) {
	t.Helper()
	acts, e := coins.Order(w, purse)
	put := make([]int, len(purse))
	for _, a := range acts {
		if a < -1 || a >= len(put) {
			t.Errorf("Order of %v, %v = %v", w, purse, acts)
			return
		}
		if a >= 0 {
			put[a]++
		}
	}
	if e != api.OK || !slices.Equal(put, purse) || len(acts) > 2*countOf(purse) || boughtBy(w, acts) != most {
		t.Errorf("Order of %v, %v = %v, %d; Most is %d", w, purse, acts, e, most)
	}
}

// P1.5: examples whose best way is the only one, and one with a selection behind each coin.
func TestOrder(t *testing.T) {
	checkOrder(t, wheelW(), []int{0, 0, 2}, 6)
	checkOrder(t, wheelW(), []int{1, 3, 0}, 4)
	checkOrder(t, wheelW(), []int{0, 0, 0}, 0)
	checkOrder(t, wheel(7, nil, nil), nil, 0)
	checkOrder(t, wheel(100, []int{10}, []int{10}), []int{12}, 12)
	checkOrder(t, wheel(20, []int{4, 5, 10}, []int{3, 5}), []int{2, 1}, 4)
}

// checkPurse compares Most, Least, Order and Wasted with all ways to put a purse in.
func checkPurse(t *testing.T, w api.Wheel, purse []int) {
	t.Helper()
	wantMost, wantLeast := mostAndLeast(w, purse)
	most, e := coins.Most(w, purse)
	least, f := coins.Least(w, purse)
	if most != wantMost || e != api.OK || least != wantLeast || f != api.OK {
		t.Errorf("of %v, %v: Most = %d, %d, not %d; Least = %d, %d, not %d", w, purse, most, e, wantMost, least, f, wantLeast)
	}
	checkOrder(t, w, purse, wantMost)
	wantWasted := wastedBy(w, purse)
	if wasted, e := coins.Wasted(w, purse); wasted != wantWasted || e != api.OK {
		t.Errorf("Wasted of %v, %v = %d, %d, not %d", w, purse, wasted, e, wantWasted)
	}
}

// P1.4, P1.5, P1.6, P1.12: no way is better than Most or worse than Least, and Order and Wasted agree with them.
func TestAllWays(t *testing.T) {
	for w := range smallWheels() {
		for _, purse := range parts(slices.Repeat([]int{3}, len(w.Coins))) {
			if countOf(purse) <= 4 {
				checkPurse(t, w, purse)
			}
		}
	}
	for w, draw := range drawn(150, 60, 30) {
		checkPurse(t, w, drawPurse(draw, w, 5))
	}
}

// P1.7: the chapter's examples, the first one of the document, and wheels on which nothing is bought.
func TestCheapest(t *testing.T) {
	for i, x := range []struct {
		w           api.Wheel
		plays, want int
		e           api.Errno
	}{
		{wheelW(), 1, 10, api.OK},
		{wheelW(), 2, 20, api.OK},
		{wheelW(), 3, 25, api.OK},
		{wheelW(), 4, 35, api.OK},
		{wheelW(), 20, 170, api.OK},
		{wheelV(), 7, 60, api.OK},
		{wheel(5, nil, []int{1}), 1, 0, api.ErrNone},
		{wheel(5, []int{1}, nil), 1, 0, api.ErrNone},
		{wheel(5, nil, nil), 20, 0, api.ErrNone},
		{wheel(1, []int{1}, []int{7}), 20, 21, api.OK},
		{wheel(200, []int{200}, []int{1}), 20, 4000, api.OK},
		{wheel(200, []int{1}, []int{100}), 20, 2000, api.OK},
		{wheel(200, []int{3}, []int{2, 3}), 20, 60, api.OK},
		{wheel(200, []int{3}, []int{2}), 20, 80, api.OK},
	} {
		if cents, e := coins.Cheapest(x.w, x.plays); cents != x.want || e != x.e {
			t.Errorf("%d: Cheapest = %d, %d", i, cents, e)
		}
	}
}

// checkCheapest compares Cheapest with all that can be bought for each sum of cents.
func checkCheapest(t *testing.T, w api.Wheel, most, limit int) {
	t.Helper()
	want := cheapestBy(w, most, limit)
	for plays := 1; plays <= most; plays++ {
		cents, e := coins.Cheapest(w, plays)
		none := want[plays] < 0
		if none && (e != api.ErrNone || cents != 0) || !none && (e != api.OK || cents != want[plays]) {
			t.Errorf("Cheapest of %v, %d = %d, %d, not %d", w, plays, cents, e, want[plays])
		}
	}
}

// P1.7: no coins are cheaper.
func TestAllSums(t *testing.T) {
	for w := range smallWheels() {
		checkCheapest(t, w, 4, 4*w.Round+7)
	}
	for w := range drawn(100, 30, 40) {
		checkCheapest(t, w, 5, 5*w.Round+40)
	}
}

// P1.8, P1.9: the chapter's examples, and the edges.
func TestCouldNow(t *testing.T) {
	for i, x := range []struct {
		w          api.Wheel
		seen       []api.Seen
		could, now []int
		e          api.Errno
	}{
		{wheelU(), seen(0, 0), []int{0, 3, 4}, []int{0, 1, 4}, api.OK},
		{wheelU(), seen(0, 0, 0, 1), []int{0}, []int{2}, api.OK},
		{wheelU(), nil, []int{0, 1, 2, 3, 4}, []int{0, 1, 2, 3, 4}, api.OK},
		{wheel(3, nil, nil), nil, []int{0, 1, 2}, []int{0, 1, 2}, api.OK},
		{wheelU(), seen(1, 1), []int{0, 2}, []int{2, 4}, api.OK},
		{wheelU(), seen(0, 2), nil, nil, api.ErrNone},
		{wheelU(), seen(0, 1, 0, 1, 0, 1), nil, nil, api.ErrNone},
		{wheel(5, []int{5}, []int{1}), seen(0, 1), []int{4}, []int{0}, api.OK},
		{wheel(1, []int{1}, []int{100}), seen(0, 100), []int{0}, []int{0}, api.OK},
		{wheel(1, []int{1}, []int{100}), seen(0, 99), nil, nil, api.ErrNone},
		{wheelW(), seen(1, 2), []int{15, 16, 17, 18, 19}, []int{25, 26, 27, 28, 29}, api.OK},
		{wheel(6, []int{3, 6}, []int{9}), seen(0, 3, 0, 3), []int{0, 1, 2, 3, 4, 5}, []int{0, 1, 2, 3, 4, 5}, api.OK},
	} {
		could, e := coins.Could(x.w, x.seen)
		now, f := coins.Now(x.w, x.seen)
		if !slices.Equal(could, x.could) || e != x.e || !slices.Equal(now, x.now) || f != x.e {
			t.Errorf("%d: Could = %v, %d; Now = %v, %d", i, could, e, now, f)
		}
	}
}

// P1.8, P1.9: Could and Now are what each place says that is tried.
func TestAllPlaces(t *testing.T) {
	for w, draw := range drawn(300, api.MaxRound, api.MaxCoin) {
		l, _ := watch(w, draw.IntN(w.Round), drawKinds(draw, w, draw.IntN(4)))
		if len(l) > 0 && draw.IntN(3) == 0 {
			l[draw.IntN(len(l))].Plays++
		}
		could, now := whereBy(w, l)
		want := api.OK
		if len(could) == 0 {
			want = api.ErrNone
		}
		a, e := coins.Could(w, l)
		b, f := coins.Now(w, l)
		if !slices.Equal(a, could) || e != want || !slices.Equal(b, now) || f != want {
			t.Errorf("of %v, %v: Could = %v, %d, not %v; Now = %v, %d, not %v", w, l, a, e, could, b, f, now)
		}
	}
}

// P1.10: the chapter's example, and the edges: no coin is needed, just MaxTell, one more, and kinds that help only together.
func TestTell(t *testing.T) {
	for i, x := range []struct {
		w      api.Wheel
		length int
		e      api.Errno
	}{
		{wheelU(), 2, api.OK},
		{wheel(1, nil, nil), 0, api.OK},
		{wheel(1, []int{1}, []int{1, 2}), 0, api.OK},
		{wheel(2, []int{1}, nil), 0, api.ErrNone},
		{wheel(2, nil, []int{1}), 0, api.ErrNone},
		{wheel(2, []int{1, 2}, []int{1}), 0, api.ErrNone},
		{wheel(2, []int{1}, []int{2}), 0, api.ErrNone},
		{wheel(2, []int{1}, []int{1}), 1, api.OK},
		{wheel(5, []int{1}, []int{1}), 4, api.OK},
		{wheel(6, []int{1}, []int{1}), 0, api.ErrNone},
		{wheel(6, []int{1, 2, 4}, []int{2}), 0, api.ErrNone},
		{wheel(6, []int{1, 2, 4}, []int{3}), 0, api.ErrNone},
		{wheel(6, []int{1, 2, 4}, []int{2, 3}), 3, api.OK},
		{wheel(6, []int{2, 4}, []int{2, 3}), 4, api.OK},
	} {
		kinds, e := coins.Tell(x.w)
		if e != x.e || len(kinds) != x.length || e == api.OK && !tellsBy(x.w, kinds) {
			t.Errorf("%d: Tell = %v, %d", i, kinds, e)
		}
	}
}

// shortestBy returns how many kinds tell at the least, or -1.
func shortestBy(w api.Wheel) int {
	for length := range api.MaxTell + 1 {
		for _, list := range listsOf(w, length) {
			if tellsBy(w, list) {
				return length
			}
		}
	}
	return -1
}

// checkTell reports a Tell that does not tell, or is not the shortest one.
func checkTell(t *testing.T, w api.Wheel) {
	t.Helper()
	kinds, e := coins.Tell(w)
	length := shortestBy(w)
	if length < 0 {
		if e != api.ErrNone || len(kinds) > 0 {
			t.Errorf("Tell of %v = %v, %d: there is none", w, kinds, e)
		}
		return
	}
	if e != api.OK || len(kinds) != length || slices.ContainsFunc(kinds, func(k int) bool { return k < 0 || k >= len(w.Coins) }) || !tellsBy(w, kinds) {
		t.Errorf("Tell of %v = %v, %d: %d kinds tell", w, kinds, e, length)
	}
}

// P1.10, P1.17: Tell tells, and no shorter list does.
func TestAllLists(t *testing.T) {
	for w := range smallWheels() {
		checkTell(t, w)
	}
	for w := range drawn(60, 9, 12) {
		checkTell(t, w)
	}
}
