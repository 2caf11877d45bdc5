package shares_test

import (
	"math/rand/v2"
	"slices"
	"testing"

	"shellac/api"
	"shellac/shares"
)

// week returns the split of some takings.
func week(t *testing.T, s api.Share, takings int) api.Split {
	t.Helper()
	x, e := shares.Week(s, takings)
	if e != api.OK {
		t.Fatalf("Week of %v, %d: %d", s, takings, e)
	}
	return x
}

// weeks returns the splits of some weeks, and what is owed then.
func weeks(t *testing.T, s api.Share, takings []int) ([]api.Split, int) {
	t.Helper()
	l, owed, e := shares.Weeks(s, takings)
	if e != api.OK {
		t.Fatalf("Weeks of %v, %v: %d", s, takings, e)
	}
	return l, owed
}

// gives returns what a clause gives.
func gives(t *testing.T, s api.Share, takings, clause int) int {
	t.Helper()
	n, e := shares.Gives(s, takings, clause)
	if e != api.OK {
		t.Fatalf("Gives of %v, %d, %d: %d", s, takings, clause, e)
	}
	return n
}

// enough returns the takings that are enough for a goal, MaxCents and 1 if none are.
func enough(t *testing.T, s api.Share, goal int) int {
	t.Helper()
	n, e := shares.Enough(s, goal)
	switch e {
	case api.OK:
		return n
	case api.ErrNone:
		return api.MaxCents + 1
	}
	t.Fatalf("Enough of %v, %d: %d", s, goal, e)
	return 0
}

// eachDrawn does something with drawn contracts of all sizes.
func eachDrawn(count int, do func(s api.Share, draw drawer)) {
	for _, l := range []limits{few, some, full} {
		for s, draw := range drawn(count, l) {
			do(s, draw)
		}
	}
}

// checkCents reports a split that is not one of some takings and a loan.
func checkCents(t *testing.T, x api.Split, takings, loan int) {
	t.Helper()
	if x.Operator+x.Owner != takings || x.Operator < 0 || x.Owner < 0 || x.Repaid < 0 || x.Repaid > x.Operator || x.Repaid > loan {
		t.Errorf("%d are split as %v; %d are owed", takings, x, loan)
	}
}

// P9.11 (to the cent): operator and owner together get what was taken; Repaid is at most what the operator gets, and what is owed; all clauses give at most what was taken.
func TestToTheCent(t *testing.T) {
	left := 0
	eachDrawn(300, func(s api.Share, draw drawer) {
		takings := draw.sum()
		checkCents(t, week(t, s, takings), takings, s.Loan)
		gift, e := shares.Gift(s, takings, draw.sum())
		if e != api.OK {
			t.Errorf("Gift of %v: %d", s, e)
		}
		checkCents(t, gift, takings, s.Loan)
		all := 0
		for clause := range s.Clauses {
			n := gives(t, s, takings, clause)
			if n < 0 {
				t.Errorf("Gives of %v, %d, %d = %d", s, takings, clause, n)
			}
			all += n
		}
		if all > takings {
			t.Errorf("the clauses of %v give %d of %d", s, all, takings)
		}
		if all < takings {
			left++
		}
	})
	if left < 300 {
		t.Errorf("only %d contracts leave something", left)
	}
}

// P9.12 (greater takings): with at most one Percent or Steps the owner does not get less of greater takings.
func TestGreaterTakings(t *testing.T) {
	grown, other := 0, 0
	eachDrawn(150, func(s api.Share, draw drawer) {
		if cuts(s) > 1 {
			other++
			return
		}
		from := draw.sum()
		before := week(t, s, from).Owner
		for cents := from + 1; cents <= min(from+40, api.MaxCents); cents++ {
			owner := week(t, s, cents).Owner
			if owner < before {
				t.Errorf("of %v the owner gets %d of %d, %d of one less", s, owner, cents, before)
			}
			if owner > before {
				grown++
			}
			before = owner
		}
	})
	if grown < 500 || other < 50 {
		t.Errorf("only %d times the owner gets more; %d contracts have more such clauses", grown, other)
	}
	if a, b := week(t, falling(), 9).Owner, week(t, falling(), 10).Owner; a <= b {
		t.Errorf("of %v, with two such clauses, the owner gets %d of 9, %d of 10", falling(), a, b)
	}
}

// P9.13 (weeks): weeks of some takings and others are those of the first ones, and then of the others with what is owed then; what is owed never becomes greater.
func TestWeeksBehindWeeks(t *testing.T) {
	paid := 0
	eachDrawn(200, func(s api.Share, draw drawer) {
		first := draw.weeks(api.MaxPay)
		others := draw.weeks(api.MaxPay - len(first))
		l, owed := weeks(t, s, slices.Concat(first, others))
		a, between := weeks(t, s, first)
		b, left := weeks(t, owes(s, between), others)
		if !slices.Equal(l, slices.Concat(a, b)) || owed != left {
			t.Errorf("Weeks of %v, %v and %v = %v, %d; apart %v and %v, %d", s, first, others, l, owed, a, b, left)
		}
		if left > between || between > s.Loan {
			t.Errorf("of %v after %v %d is owed, after %v %d", s, first, between, others, left)
		}
		if left < between {
			paid++
		}
		for i, x := range l {
			checkCents(t, x, slices.Concat(first, others)[i], s.Loan)
			if want := week(t, s, slices.Concat(first, others)[i]); x != want {
				t.Errorf("the week %d of %v is %v, not %v", i, s, x, want)
			}
			s.Loan -= x.Repaid
		}
		if s.Loan != owed {
			t.Errorf("%d is owed, not %d", owed, s.Loan)
		}
	})
	if paid < 60 {
		t.Errorf("only %d times something is paid back", paid)
	}
}

// P9.14 (enough): with the takings Enough the owner gets at least the goal, with lesser ones less; with a greater goal Enough is not less.
func TestEnoughIsLeast(t *testing.T) {
	reached, greater := 0, 0
	eachDrawn(60, func(s api.Share, draw drawer) {
		goal := draw.sum() / 2
		n := enough(t, s, goal)
		if n <= api.MaxCents {
			reached++
			if x := week(t, s, n); x.Owner < goal {
				t.Errorf("Enough of %v, %d = %d, of which the owner gets %d", s, goal, n, x.Owner)
			}
		}
		for range 30 {
			if n > 0 {
				checkLess(t, s, draw.IntN(n), goal)
			}
		}
		if n > 0 {
			checkLess(t, s, n-1, goal)
		}
		more := enough(t, s, min(api.MaxCents, goal+1+draw.IntN(20)))
		if more < n {
			t.Errorf("Enough of %v, %d = %d; of a greater goal %d", s, goal, n, more)
		}
		if more > n {
			greater++
		}
	})
	if reached < 60 || greater < 40 {
		t.Errorf("only %d goals are reached, %d greater ones later", reached, greater)
	}
}

// checkLess reports takings of which the owner gets a goal.
func checkLess(t *testing.T, s api.Share, takings, goal int) {
	t.Helper()
	if x := week(t, s, takings); x.Owner >= goal {
		t.Errorf("of %v, %d the owner gets %d, the goal is %d", s, takings, x.Owner, goal)
	}
}

// P9.15 (any order): in no order of the clauses does the owner get more than in that of Best, and in each one before it less.
func TestAnyOrder(t *testing.T) {
	worse, later := 0, 0
	eachDrawn(100, func(s api.Share, draw drawer) {
		takings := draw.sum()
		best, e := shares.Best(s, takings)
		all := allOrders(len(s.Clauses))
		if e != api.OK || !slices.ContainsFunc(all, func(order []int) bool { return slices.Equal(order, best) }) {
			t.Errorf("Best of %v, %d = %v, %d", s, takings, best, e)
			return
		}
		most := week(t, puts(s, best), takings).Owner
		for _, order := range all {
			owner, first := week(t, puts(s, order), takings).Owner, slices.Compare(order, best) < 0
			if owner > most || first && owner == most {
				t.Errorf("Best of %v, %d = %v with %d; in the order %v it is %d", s, takings, best, most, order, owner)
			}
			if owner < most {
				worse++
			}
			if first {
				later++
			}
		}
	})
	if worse < 1000 || later < 300 {
		t.Errorf("only %d orders are worse, %d before the best one", worse, later)
	}
}

// P9.16 (without): a clause that gives nothing can be left out: then nobody gets more or less.
func TestWithoutNothing(t *testing.T) {
	nothing := 0
	eachDrawn(150, func(s api.Share, draw drawer) {
		takings := draw.sum()
		for clause := range s.Clauses {
			if gives(t, s, takings, clause) > 0 {
				continue
			}
			nothing++
			if n, e := shares.Without(s, takings, clause); n != 0 || e != api.OK {
				t.Errorf("Without of %v, %d, %d = %d, %d", s, takings, clause, n, e)
			}
			if a, b := week(t, s, takings), week(t, lacks(s, clause), takings); a != b {
				t.Errorf("Week of %v, %d = %v, without the clause %d %v", s, takings, a, clause, b)
			}
		}
	})
	if nothing < 150 {
		t.Errorf("only %d clauses give nothing", nothing)
	}
}

// P9.17 (repaid): after Repaid weeks with the same takings nothing is owed, and after one week less something is.
func TestRepaidIsLeast(t *testing.T) {
	draw := rand.New(rand.NewPCG(9, 17))
	at := map[int]int{}
	for range 600 {
		s := contract(draw.IntN(30), front(draw.IntN(5)), repay(draw.IntN(12)), percent(draw.IntN(101)), repay(draw.IntN(4)))
		takings := draw.IntN(20)
		count, e := shares.Repaid(s, takings)
		if e == api.ErrNone {
			if owedAfter(t, s, takings, 1000) == 0 {
				t.Errorf("Repaid of %v, %d is ErrNone", s, takings)
			}
			continue
		}
		at[min(count, api.MaxPay+1)]++
		if owed := owedAfter(t, s, takings, count); e != api.OK || owed != 0 {
			t.Errorf("Repaid of %v, %d = %d, %d; then %d is owed", s, takings, count, e, owed)
		}
		if count == 0 {
			continue
		}
		if owed := owedAfter(t, s, takings, count-1); owed == 0 {
			t.Errorf("Repaid of %v, %d = %d; nothing is owed after a week less", s, takings, count)
		}
	}
	for count := range api.MaxPay + 2 {
		if at[count] < 5 {
			t.Errorf("only %d loans are paid back in %d weeks", at[count], count)
		}
	}
}

// owedAfter returns what is owed after so many weeks.
func owedAfter(t *testing.T, s api.Share, takings, count int) int {
	t.Helper()
	for ; count > 0; count -= min(count, api.MaxPay) {
		_, s.Loan = weeks(t, s, slices.Repeat([]int{takings}, min(count, api.MaxPay)))
	}
	return s.Loan
}
