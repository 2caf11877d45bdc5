package shares_test

import (
	"math"
	"slices"
	"testing"

	"shellac/api"
	"shellac/shares"
)

func validContracts() []api.Share {
	return []api.Share{
		contractC(), widest(), falling(), {}, contract(700), contract(api.MaxCents), {Clauses: []api.Clause{}},
		contract(0, front(0)), contract(0, repay(0)), contract(0, percent(0)), contract(0, steps(0, 0, 0)), contract(0, minimum(0)),
		contract(5, front(api.MaxCents), repay(api.MaxCents), percent(api.MaxPart), steps(api.MaxCents, api.MaxPart, api.MaxPart), minimum(api.MaxCents)),
		contract(0, slices.Repeat([]api.Clause{percent(20)}, api.MaxClauses)...),
		contract(0, api.Clause{Kind: api.Front, Cents: 1, Part: api.MaxPart, More: api.MaxPart}),
	}
}

func invalidContracts() []api.Share {
	l := []api.Share{
		contract(0, slices.Repeat([]api.Clause{front(1)}, api.MaxClauses+1)...),
		contract(0, slices.Repeat([]api.Clause{front(1)}, 1000)...),
		contract(0, api.Clause{}),
		contract(0, front(1), api.Clause{Cents: 1}),
	}
	for _, kind := range []int{0, -1, 6, 7, -5, math.MinInt, math.MaxInt} {
		l = append(l,
			contract(0, api.Clause{Kind: kind, Cents: 1, Part: 1, More: 1}),
			with(contractC(), func(s *api.Share) { s.Clauses[0].Kind = kind }),
			with(contractC(), func(s *api.Share) { s.Clauses[3].Kind = kind }))
	}
	for _, n := range []int{-1, math.MinInt, api.MaxCents + 1, math.MaxInt} {
		l = append(l, contract(n), owes(contractC(), n))
		for kind := api.Front; kind <= api.Minimum; kind++ {
			l = append(l, contract(0, api.Clause{Kind: kind, Cents: n}), contract(0, front(1), api.Clause{Kind: kind, Cents: n}))
		}
	}
	for _, n := range []int{-1, math.MinInt, api.MaxPart + 1, math.MaxInt} {
		for kind := api.Front; kind <= api.Minimum; kind++ {
			l = append(l,
				contract(0, api.Clause{Kind: kind, Part: n}), contract(0, api.Clause{Kind: kind, More: n}),
				contract(0, front(1), api.Clause{Kind: kind, Cents: 1, Part: n, More: 1}), contract(0, front(1), api.Clause{Kind: kind, Cents: 1, Part: 1, More: n}))
		}
	}
	return l
}

// badCents are numbers that are no takings, no goals and no gifts.
func badCents() []int { return []int{-1, math.MinInt, api.MaxCents + 1, math.MaxInt} }

// badClauses are numbers that are those of no clause.
func badClauses(s api.Share) []int {
	return []int{-1, math.MinInt, len(s.Clauses), len(s.Clauses) + 1, api.MaxClauses, math.MaxInt}
}

// answer is the error of a function, and whether all its other results are zero values.
type answer struct {
	e    api.Errno
	zero bool
}

// ofCents asks the functions that are given a contract, and takings or a goal.
func ofCents(s api.Share, cents int) map[string]answer {
	week, e := shares.Week(s, cents)
	enough, f := shares.Enough(s, cents)
	repaid, g := shares.Repaid(s, cents)
	best, h := shares.Best(s, cents)
	return map[string]answer{
		"Week": {e, week == api.Split{}}, "Enough": {f, enough == 0},
		"Repaid": {g, repaid == 0}, "Best": {h, len(best) == 0},
	}
}

// ofClause asks the functions that are given the number of a clause.
func ofClause(s api.Share, takings, clause int) map[string]answer {
	gives, e := shares.Gives(s, takings, clause)
	without, f := shares.Without(s, takings, clause)
	return map[string]answer{"Gives": {e, gives == 0}, "Without": {f, without == 0}}
}

func ofGift(s api.Share, takings, gift int) map[string]answer {
	split, e := shares.Gift(s, takings, gift)
	return map[string]answer{"Gift": {e, split == api.Split{}}}
}

func ofWeeks(s api.Share, takings []int) map[string]answer {
	l, owed, e := shares.Weeks(s, takings)
	return map[string]answer{"Weeks": {e, len(l) == 0 && owed == 0}}
}

func ofBox(s api.Share, b api.Box) map[string]answer {
	split, more, e := shares.Box(s, b)
	return map[string]answer{"Box": {e, split == api.Split{} && more == 0}}
}

// checkNone reports an answer that has not the error, or that says something nevertheless.
func checkNone(t *testing.T, i int, asked any, all map[string]answer, want api.Errno) {
	t.Helper()
	for name, a := range all {
		if a.e != want || !a.zero {
			t.Errorf("%d, %v: %s: %d, zero: %t; not %d", i, asked, name, a.e, a.zero, want)
		}
	}
}

// checkAsked reports an answer that is ErrShare or ErrArg.
func checkAsked(t *testing.T, i int, asked any, all map[string]answer) {
	t.Helper()
	for name, a := range all {
		if a.e != api.OK && a.e != api.ErrNone {
			t.Errorf("%d, %v: %s: %d", i, asked, name, a.e)
		}
	}
}

// P9.1: which contracts are valid.
func TestCheck(t *testing.T) {
	for i, s := range validContracts() {
		if e := shares.Check(s); e != api.OK {
			t.Errorf("valid contract %d: Check = %d", i, e)
		}
	}
	for i, s := range invalidContracts() {
		if e := shares.Check(s); e != api.ErrShare {
			t.Errorf("invalid contract %d, %v: Check = %d", i, s, e)
		}
	}
	for _, l := range []limits{few, some, full} {
		for s := range drawn(200, l) {
			if e := shares.Check(s); e != api.OK {
				t.Errorf("Check of %v = %d", s, e)
			}
		}
	}
}

// badBox is a box that is not valid.
func badBox() api.Box {
	b := boxX(5)
	b.Plays = -1
	return b
}

// P9.1, R1, R2: an invalid contract comes before everything else that is not valid, and before ErrMany and ErrNone; nothing else is said of it.
func TestInvalidContractComesFirst(t *testing.T) {
	many := make([]int, api.MaxPay+1)
	for i, s := range invalidContracts() {
		for _, n := range slices.Concat(badCents(), []int{0, 100, api.MaxCents}) {
			checkNone(t, i, n, ofCents(s, n), api.ErrShare)
			checkNone(t, i, n, ofGift(s, n, n), api.ErrShare)
			checkNone(t, i, n, ofWeeks(s, []int{n}), api.ErrShare)
			for _, clause := range []int{0, 1, -1, math.MinInt, 1000, math.MaxInt} {
				checkNone(t, i, clause, ofClause(s, n, clause), api.ErrShare)
			}
		}
		checkNone(t, i, nil, ofWeeks(s, nil), api.ErrShare)
		checkNone(t, i, many, ofWeeks(s, many), api.ErrShare)
		for _, b := range []api.Box{boxX(5), boxX(2), {}, badBox()} {
			checkNone(t, i, b, ofBox(s, b), api.ErrShare)
		}
	}
}

// P9.2 to P9.9: takings, goals and gifts that are less than nothing, or too much; ErrArg comes before ErrNone.
func TestBadCents(t *testing.T) {
	for i, s := range validContracts() {
		for _, n := range badCents() {
			checkNone(t, i, n, ofCents(s, n), api.ErrArg)
			checkNone(t, i, n, ofGift(s, n, 0), api.ErrArg)
			checkNone(t, i, n, ofGift(s, 100, n), api.ErrArg)
			for _, list := range [][]int{{n}, {n, 1}, {1, n}, {1, 2, 3, 4, 5, n}} {
				checkNone(t, i, list, ofWeeks(s, list), api.ErrArg)
			}
			for clause := range s.Clauses {
				checkNone(t, i, n, ofClause(s, n, clause), api.ErrArg)
			}
		}
		for _, n := range []int{0, 1, api.MaxCents} {
			checkAsked(t, i, n, ofCents(s, n))
			checkAsked(t, i, n, ofGift(s, n, api.MaxCents-n))
			checkAsked(t, i, n, ofWeeks(s, []int{n}))
			for clause := range s.Clauses {
				checkAsked(t, i, n, ofClause(s, n, clause))
			}
		}
	}
}

// P9.6, P9.8: numbers that are those of no clause.
func TestBadClauses(t *testing.T) {
	for i, s := range validContracts() {
		for _, clause := range badClauses(s) {
			checkNone(t, i, clause, ofClause(s, 100, clause), api.ErrArg)
			checkNone(t, i, clause, ofClause(s, -1, clause), api.ErrArg)
		}
	}
}

// P9.3, R1, R7: ErrMany comes before ErrArg; as many weeks as there can be are not too many.
func TestManyWeeks(t *testing.T) {
	for i, s := range validContracts() {
		for _, list := range [][]int{
			make([]int, api.MaxPay+1), slices.Repeat([]int{api.MaxCents}, api.MaxPay+1), make([]int, 1000),
			slices.Repeat([]int{-1}, api.MaxPay+1), {0, 1, 2, 3, 4, 5, math.MaxInt}, {math.MinInt, 1, 2, 3, 4, 5, 6},
		} {
			checkNone(t, i, list, ofWeeks(s, list), api.ErrMany)
		}
		checkAsked(t, i, nil, ofWeeks(s, nil))
		checkAsked(t, i, api.MaxPay, ofWeeks(s, slices.Repeat([]int{api.MaxCents}, api.MaxPay)))
	}
}

// P9.4, P9.5: no takings are enough, or the loan is not paid back.
func TestNone(t *testing.T) {
	for i, s := range []api.Share{contract(1), contract(5, front(10)), contract(9, repay(0), percent(99)), contract(api.MaxCents, front(500), repay(1), steps(1000, 40, 60))} {
		all := ofCents(s, api.MaxCents)
		checkNone(t, i, s, map[string]answer{"Enough": all["Enough"], "Repaid": all["Repaid"]}, api.ErrNone)
		if all["Week"].e != api.OK || all["Best"].e != api.OK {
			t.Errorf("%v: %v", s, all)
		}
	}
}

// P9.10: the error of Cash; a box that cannot be explained is none.
func TestBadBoxes(t *testing.T) {
	bad := []api.Box{{}, badBox()}
	for _, change := range []func(b *api.Box){
		func(b *api.Box) { b.Wheel.Round = 0 },
		func(b *api.Box) { b.Found = nil },
		func(b *api.Box) { b.Found = []int{0, 2, 11} },
		func(b *api.Box) { b.Marked = []int{1, 0, 0} },
		func(b *api.Box) { b.Slugs = []int{0, 0, -1} },
		func(b *api.Box) { b.Plays = api.MaxRegister + 1 },
		func(b *api.Box) { b.Skips = api.MaxSkips + 1 },
	} {
		b := boxX(5)
		change(&b)
		bad = append(bad, b)
	}
	for i, s := range validContracts() {
		for _, b := range bad {
			checkNone(t, i, b, ofBox(s, b), api.ErrBox)
		}
		for _, plays := range []int{2, 5, 6, 100} {
			if _, _, e := shares.Box(s, boxX(plays)); e != api.OK {
				t.Errorf("Box of %v with %d plays: %d", s, plays, e)
			}
		}
	}
}
