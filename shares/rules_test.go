package shares_test

import (
	"fmt"
	"math"
	"slices"
	"testing"

	"shellac/api"
	"shellac/shares"
)

// answers returns all that the functions say of arguments, as one text.
func answers(s api.Share, takings []int, n, clause int, b api.Box) string {
	l, owed, e := shares.Weeks(s, takings)
	split, more, f := shares.Box(s, b)
	best, g := shares.Best(s, n)
	text := fmt.Sprint(shares.Check(s), l, owed, e, split, more, f, best, g)
	for _, of := range []func(api.Share, int) (int, api.Errno){
		shares.Enough, shares.Repaid,
		func(s api.Share, n int) (int, api.Errno) { return shares.Gives(s, n, clause) },
		func(s api.Share, n int) (int, api.Errno) { return shares.Without(s, n, clause) },
	} {
		got, e := of(s, n)
		text += fmt.Sprint(";", got, e)
	}
	week, e := shares.Week(s, n)
	gift, f := shares.Gift(s, n, clause)
	return text + fmt.Sprint(";", week, e, gift, f)
}

// P1: every function returns, whatever it is given.
func TestAnyArguments(t *testing.T) {
	wild := []api.Share{
		contract(math.MaxInt, api.Clause{Kind: math.MaxInt, Cents: math.MinInt, Part: math.MaxInt, More: math.MinInt}),
		contract(math.MinInt, slices.Repeat([]api.Clause{percent(math.MaxInt)}, 5)...),
		contract(0, slices.Repeat([]api.Clause{steps(math.MaxInt, math.MinInt, math.MaxInt)}, 100)...),
	}
	numbers := []int{0, 1, 5, 100, api.MaxCents, api.MaxCents + 1, -1, math.MinInt, math.MaxInt}
	for i, s := range slices.Concat(validContracts(), invalidContracts(), wild) {
		b := []api.Box{boxX(5), {}, badBox(), cent(api.MaxPut, math.MaxInt), cent(math.MaxInt, 3)}[i%5]
		for _, n := range numbers {
			answers(s, []int{n, 1}, n, numbers[i%len(numbers)], b)
		}
		answers(s, make([]int, 1000), 0, 1000, b)
	}
}

// P1: the greatest contracts are done in time, and no number is too great.
func TestGreatestArguments(t *testing.T) {
	s := owes(widest(), api.MaxCents)
	if n, e := shares.Enough(s, api.MaxCents); n != 0 || e != api.ErrNone {
		t.Errorf("Enough of %v = %d, %d", s, n, e)
	}
	if n, e := shares.Repaid(s, api.MaxCents); n != 0 || e != api.ErrNone {
		t.Errorf("Repaid of %v = %d, %d", s, n, e)
	}
	if best, e := shares.Best(s, api.MaxCents); !slices.Equal(best, []int{0, 1, 2, 3, 4}) || e != api.OK {
		t.Errorf("Best of %v = %v, %d", s, best, e)
	}
	if x, e := shares.Gift(s, api.MaxCents, api.MaxCents); x != split(0, api.MaxCents, 0) || e != api.OK {
		t.Errorf("Gift of %v = %v, %d", s, x, e)
	}
}

// R3: nil and empty lists are the same.
func TestNilAndEmpty(t *testing.T) {
	a := answers(api.Share{Loan: 7}, nil, 20, 0, boxX(5))
	b := answers(api.Share{Clauses: []api.Clause{}, Loan: 7}, []int{}, 20, 0, boxX(5))
	if a != b {
		t.Errorf("nil: %s; empty: %s", a, b)
	}
}

// roomy returns a copy of a list with memory behind it.
func roomy[T any](list []T) []T {
	return append(slices.Clone(list), make([]T, 2)...)[:len(list)]
}

// spoil writes over a list, and over the memory behind it.
func spoil[T any](list []T, with T) {
	list = list[:cap(list)]
	for i := range list {
		list[i] = with
	}
}

// whole is a text of a contract, takings and a box, with the memory behind their lists.
func whole(s api.Share, takings []int, b api.Box) string {
	return fmt.Sprint(s.Clauses[:cap(s.Clauses)], s.Loan, takings[:cap(takings)], b, b.Found[:cap(b.Found)], b.Marked[:cap(b.Marked)], b.Slugs[:cap(b.Slugs)])
}

// R4: no argument is changed, nor the memory behind it, also if a result is changed.
func TestArgumentsStay(t *testing.T) {
	for s, draw := range drawn(40, some) {
		s.Clauses = roomy(s.Clauses)
		takings := roomy(draw.weeks(api.MaxPay))
		b := boxX(6)
		b.Found, b.Marked, b.Slugs = roomy(b.Found), roomy(b.Marked), roomy(b.Slugs)
		text := whole(s, takings, b)
		for clause := range len(s.Clauses) + 1 {
			answers(s, takings, draw.sum(), clause, b)
		}
		l, _, _ := shares.Weeks(s, takings)
		spoil(l, split(99, 99, 99))
		best, _ := shares.Best(s, draw.sum())
		spoil(best, 99)
		if after := whole(s, takings, b); after != text {
			t.Errorf("changed from %s to %s", text, after)
		}
	}
}

// R4: a result is new memory each time.
func TestResultsAreNew(t *testing.T) {
	for range 2 {
		best, e := shares.Best(contractC(), 2013)
		if !slices.Equal(best, []int{3, 2, 0, 1}) || e != api.OK {
			t.Errorf("Best = %v, %d", best, e)
		}
		spoil(best, 99)
		l, _, e := shares.Weeks(contractC(), []int{900, 400})
		if !slices.Equal(l, []api.Split{split(800, 100, 300), split(400, 0, 0)}) || e != api.OK {
			t.Errorf("Weeks = %v, %d", l, e)
		}
		spoil(l, split(99, 99, 99))
	}
}

// No state is kept: what was asked before changes no answer.
func TestNoState(t *testing.T) {
	ask := func(s api.Share) string { return answers(s, []int{2013, 900}, 2013, 1, boxX(6)) }
	a, b := ask(contractC()), ask(falling())
	if a == b {
		t.Errorf("two contracts answer the same: %s", a)
	}
	if again := ask(contractC()); again != a {
		t.Errorf("first %s, then %s", a, again)
	}
	if again := ask(falling()); again != b {
		t.Errorf("first %s, then %s", b, again)
	}
}

// R8: a kind of clause that the chapter does not list is not valid, whatever its numbers are.
func TestOtherKinds(t *testing.T) {
	for kind := -10; kind <= 20; kind++ {
		want := api.ErrShare
		if kind >= api.Front && kind <= api.Minimum {
			want = api.OK
		}
		if e := shares.Check(contract(1, api.Clause{Kind: kind, Cents: 3, Part: 4, More: 5})); e != want {
			t.Errorf("Check of a clause of the kind %d = %d", kind, e)
		}
	}
}
