package royalties_test

import (
	"math"
	"slices"
	"testing"

	"shellac/api"
	"shellac/royalties"
)

// idleRoyals are valid royals of which nothing was played.
func idleRoyals() []api.Royal {
	return []api.Royal{
		{}, {Sides: []api.RoyalSide{}, Owed: []int{}}, royal(api.MaxPool, nil), royal(100, owes(0)), royal(100, debts(api.MaxWriters)),
		royal(100, owes(1, 2), side(0, part(1, 100))),
		royal(100, owes(1, 2), side(0, part(1, 100)), side(0, part(0, 50), part(1, 50)), side(0, part(0, 100))),
		with(widest(), func(r *api.Royal) {
			for i := range r.Sides {
				r.Sides[i].Plays = 0
			}
		}),
	}
}

// playedRoyals are valid royals of which something was played.
func playedRoyals() []api.Royal {
	return []api.Royal{
		royalQ(), widest(), pools(royalQ(), 0), pools(royalQ(), api.MaxPool),
		royal(1, owes(0), side(1, part(0, 100))),
		royal(1, debts(api.MaxWriters), side(1, part(5, 100))),
		royal(1, owes(0, api.MaxOwed), side(api.MaxHeard, part(0, 1), part(1, 99))),
		royal(1, owes(0, 0), side(1, part(0, 99), part(1, 1))),
		royal(1, owes(0, 0, 0), side(1, part(0, 50), part(2, 50)), side(0, part(1, 100))),
		alone(7, slices.Repeat([]int{1}, api.MaxSides)...),
	}
}

func validRoyals() []api.Royal { return slices.Concat(playedRoyals(), idleRoyals()) }

// outside are numbers that are not from low to high.
func outside(low, high int) []int {
	return []int{low - 1, high + 1, math.MinInt, math.MaxInt, -high - 1}
}

func invalidRoyals() []api.Royal {
	l := []api.Royal{
		royal(9, debts(api.MaxWriters+1)),
		royal(9, debts(1000), side(1, part(0, 100))),
		royal(9, debts(api.MaxWriters+1), side(1, part(6, 100))),
		royal(9, owes(0), slices.Repeat([]api.RoyalSide{side(1, part(0, 100))}, api.MaxSides+1)...),
		royal(9, owes(0), slices.Repeat([]api.RoyalSide{side(0, part(0, 100))}, 1000)...),
		royal(9, nil, side(1)), royal(9, nil, side(0)), royal(9, owes(0), side(1)), royal(9, owes(0), side(0)),
		royal(9, nil, side(1, part(0, 100))),
		royal(9, owes(0, 0), side(1, part(0, 100)), side(1)),
	}
	for _, n := range outside(0, api.MaxPool) {
		l = append(l, pools(royalQ(), n), pools(api.Royal{}, n))
	}
	for _, n := range outside(0, api.MaxOwed) {
		l = append(l, with(royalQ(), func(r *api.Royal) { r.Owed[0] = n }), with(royalQ(), func(r *api.Royal) { r.Owed[2] = n }), royal(9, owes(n)))
	}
	for _, n := range outside(0, api.MaxHeard) {
		l = append(l, with(royalQ(), func(r *api.Royal) { r.Sides[0].Plays = n }), with(royalQ(), func(r *api.Royal) { r.Sides[1].Plays = n }))
	}
	for _, parts := range badParts() {
		l = append(l,
			with(royalQ(), func(r *api.Royal) { r.Sides[0].Parts = parts }),
			with(royalQ(), func(r *api.Royal) { r.Sides[1].Parts = parts }),
			royal(9, debts(3), side(0, parts...)))
	}
	return l
}

// badParts are parts that a side of three writers can't have.
func badParts() [][]api.RoyalPart {
	l := [][]api.RoyalPart{
		nil, {},
		{part(0, 99)}, {part(0, 101)}, {part(0, 1)},
		{part(0, 50), part(1, 49)}, {part(0, 50), part(1, 51)}, {part(0, 100), part(1, 100)},
		{part(0, 30), part(1, 30), part(2, 30)},
		// not strictly ascending
		{part(1, 50), part(0, 50)}, {part(0, 50), part(0, 50)}, {part(2, 50), part(2, 50)},
		{part(0, 30), part(2, 30), part(1, 40)}, {part(0, 30), part(1, 30), part(1, 40)},
		{part(0, 25), part(1, 25), part(2, 25), part(0, 25)},
		// a Percent that is none, though they are 100 together
		{part(0, 0), part(1, 100)}, {part(0, 100), part(1, 0)}, {part(0, -1), part(1, 101)}, {part(0, 101), part(1, -1)},
		{part(0, 200), part(1, -100)}, {part(0, math.MaxInt), part(1, math.MaxInt), part(2, 102)}, {part(0, math.MinInt), part(1, math.MinInt), part(2, 100)},
	}
	for _, who := range []int{-1, 3, 6, math.MinInt, math.MaxInt} {
		l = append(l, []api.RoyalPart{part(who, 100)}, []api.RoyalPart{part(0, 50), part(who, 50)}, []api.RoyalPart{part(who, 50), part(2, 50)})
	}
	return l
}

// badWriters are numbers that are those of no writer.
func badWriters(r api.Royal) []int {
	return []int{-1, math.MinInt, len(r.Owed), len(r.Owed) + 1, api.MaxWriters, math.MaxInt}
}

// answer is the error of a function, and whether all its other results are zero values.
type answer struct {
	e    api.Errno
	zero bool
}

// ofAll asks the functions that are given a royal alone.
func ofAll(r api.Royal) map[string]answer {
	shares, e := royalties.Shares(r)
	paid, f := royalties.Paid(r)
	left, g := royalties.Left(r)
	lost, h := royalties.Lost(r)
	return map[string]answer{
		"Shares": {e, len(shares) == 0}, "Paid": {f, len(paid) == 0},
		"Left": {g, len(left) == 0}, "Lost": {h, lost == 0},
	}
}

// ofWriter asks the functions that are given the number of a writer.
func ofWriter(r api.Royal, who int) map[string]answer {
	num, den, e := royalties.Exact(r, who)
	odd, f := royalties.Odd(r, who)
	return map[string]answer{"Exact": {e, num == 0 && den == 0}, "Odd": {f, odd == 0}}
}

func ofCents(r api.Royal, who, cents int) map[string]answer {
	least, e := royalties.Least(r, who, cents)
	return map[string]answer{"Least": {e, least == 0}}
}

// checkNone reports an answer that has not the error, or that says something nevertheless.
func checkNone(t *testing.T, i int, asked any, all map[string]answer, want api.Errno) {
	t.Helper()
	for name, a := range all {
		if a.e != want || !a.zero {
			t.Errorf("%d, %v: %s: %d, zero: %t; not %d", i, asked, name, a.e, a.zero, want)
		}
	}
}

// checkAsked reports an answer that is ErrRoyal or ErrArg, or ErrNone if it may not be.
func checkAsked(t *testing.T, i int, asked any, all map[string]answer, none ...string) {
	t.Helper()
	for name, a := range all {
		if a.e != api.OK && (a.e != api.ErrNone || !a.zero || !slices.Contains(none, name)) {
			t.Errorf("%d, %v: %s: %d", i, asked, name, a.e)
		}
	}
}

// P10.1: which royals are valid; those of which nothing was played are.
func TestCheck(t *testing.T) {
	for i, r := range validRoyals() {
		if e := royalties.Check(r); e != api.OK {
			t.Errorf("valid royal %d, %v: Check = %d", i, r, e)
		}
	}
	for i, r := range invalidRoyals() {
		if e := royalties.Check(r); e != api.ErrRoyal {
			t.Errorf("invalid royal %d, %v: Check = %d", i, r, e)
		}
	}
	for _, l := range []limits{few, some, full} {
		for r := range drawn(200, l) {
			if e := royalties.Check(r); e != api.OK {
				t.Errorf("Check of %v = %d", r, e)
			}
		}
	}
}

// P10.1, R1, R2: an invalid royal comes before everything else that is not valid, and before ErrNone; nothing else is said of it.
func TestInvalidRoyalComesFirst(t *testing.T) {
	for i, r := range invalidRoyals() {
		checkNone(t, i, nil, ofAll(r), api.ErrRoyal)
		for _, who := range []int{0, 1, 2, 6, 7, -1, math.MinInt, math.MaxInt} {
			checkNone(t, i, who, ofWriter(r, who), api.ErrRoyal)
			for _, cents := range []int{0, 1, api.MaxPool, api.MaxPool + 1, -1, math.MinInt, math.MaxInt} {
				checkNone(t, i, cents, ofCents(r, who, cents), api.ErrRoyal)
			}
		}
	}
}

// P10.2, P10.7, P10.8, R1: a number of no writer, and cents that no Pool can be; ErrArg comes before ErrNone.
func TestBadArguments(t *testing.T) {
	for i, r := range validRoyals() {
		for _, who := range badWriters(r) {
			checkNone(t, i, who, ofWriter(r, who), api.ErrArg)
			for _, cents := range []int{0, 1, api.MaxPool, api.MaxPool + 1, -1} {
				checkNone(t, i, who, ofCents(r, who, cents), api.ErrArg)
			}
		}
		for who := range r.Owed {
			for _, cents := range outside(0, api.MaxPool) {
				checkNone(t, i, cents, ofCents(r, who, cents), api.ErrArg)
			}
		}
	}
}

// P10.2 to P10.8: ErrNone if nothing was played, also if nobody is asked about, or no cents are.
func TestNothingPlayed(t *testing.T) {
	for i, r := range idleRoyals() {
		checkNone(t, i, nil, ofAll(r), api.ErrNone)
		for who := range r.Owed {
			checkNone(t, i, who, ofWriter(r, who), api.ErrNone)
			for _, cents := range []int{0, 1, api.MaxPool} {
				checkNone(t, i, cents, ofCents(r, who, cents), api.ErrNone)
			}
		}
	}
}

// R1, R7: what is valid and was played has no error, but if no Pool is what is looked for.
func TestNoError(t *testing.T) {
	for i, r := range playedRoyals() {
		checkAsked(t, i, nil, ofAll(r))
		for who := range r.Owed {
			checkAsked(t, i, who, ofWriter(r, who), "Odd")
			checkAsked(t, i, who, ofCents(r, who, 0))
			checkAsked(t, i, who, ofCents(r, who, api.MaxPool), "Least")
		}
	}
}

// P10.7: no Pool is enough.
func TestNoLeast(t *testing.T) {
	for i, x := range []struct {
		r          api.Royal
		who, cents int
	}{
		{royalQ(), 0, api.MaxPool}, {royalQ(), 0, 3751}, {royalQ(), 1, 4500}, {royalQ(), 2, 1751},
		{royal(50, owes(0, 0), side(1, part(0, 100))), 1, 1},
		{royal(50, owes(0, 0), side(1, part(0, 100)), side(0, part(1, 100))), 1, 1},
		{alone(50, 1, 1), 1, 5000}, {alone(50, 1, 1), 0, 5001},
	} {
		checkNone(t, i, x.cents, ofCents(x.r, x.who, x.cents), api.ErrNone)
	}
}

// P10.8: no Pool is odd; one is, but it is above the royal's.
func TestNoOdd(t *testing.T) {
	for i, x := range []struct {
		r   api.Royal
		who int
	}{
		{pools(royalQ(), api.MaxPool), 0}, {pools(royalQ(), api.MaxPool), 1}, {pools(royalQ(), 14), 2}, {pools(royalQ(), 1), 2}, {pools(royalQ(), 0), 2},
		{alone(api.MaxPool, 5), 0}, {alone(api.MaxPool, 2, 7), 0}, {alone(api.MaxPool, 2, 7), 1}, {alone(api.MaxPool, 1, 1, 1), 2},
		{royal(api.MaxPool, owes(0, 0), side(1, part(0, 100))), 1},
	} {
		checkNone(t, i, x.r, map[string]answer{"Odd": ofWriter(x.r, x.who)["Odd"]}, api.ErrNone)
	}
}
