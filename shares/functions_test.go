package shares_test

import (
	"slices"
	"testing"

	"shellac/api"
	"shellac/shares"
)

func split(operator, owner, repaid int) api.Split {
	return api.Split{Operator: operator, Owner: owner, Repaid: repaid}
}

// P9.2: the chapter's examples, each kind of clause alone, clauses behind one another, no takings, no clauses, and numbers that a kind does not use.
func TestWeek(t *testing.T) {
	for i, x := range []struct {
		s       api.Share
		takings int
		want    api.Split
	}{
		{contractC(), 2013, split(1488, 525, 300)},
		{contractC(), 900, split(800, 100, 300)},
		{contractC(), 400, split(400, 0, 0)},
		{contractC(), 0, split(0, 0, 0)},
		{contractC(), 650, split(650, 0, 150)},
		{owes(contractC(), 100), 2013, split(1368, 645, 100)},
		{api.Share{}, 0, split(0, 0, 0)},
		{api.Share{}, api.MaxCents, split(api.MaxCents, 0, 0)},
		{contract(700), 500, split(500, 0, 0)},
		// a Front, and one that is more than there is
		{contract(9, front(30)), 100, split(100, 0, 0)},
		{contract(0, front(30), minimum(99)), 100, split(30, 70, 0)},
		{contract(0, front(30), minimum(99)), 30, split(30, 0, 0)},
		{contract(0, front(30), minimum(99)), 29, split(29, 0, 0)},
		{contract(0, front(30), minimum(99)), 31, split(30, 1, 0)},
		{contract(0, front(0), minimum(99)), 31, split(0, 31, 0)},
		// a Repay: its cents, the loan, and the rest are each the least
		{contract(50, repay(30), minimum(999)), 100, split(30, 70, 30)},
		{contract(20, repay(30), minimum(999)), 100, split(20, 80, 20)},
		{contract(50, repay(30), minimum(999)), 10, split(10, 0, 10)},
		{contract(0, repay(30), minimum(999)), 100, split(0, 100, 0)},
		{contract(50, repay(0), minimum(999)), 100, split(0, 100, 0)},
		{contract(50, repay(30), repay(30), repay(30), minimum(999)), 100, split(50, 50, 50)},
		{contract(50, repay(30), minimum(60), repay(30)), 100, split(40, 60, 40)},
		// a Percent, rounded down to 5 cents
		{contract(0, percent(50)), 100, split(50, 50, 0)},
		{contract(0, percent(50)), 99, split(54, 45, 0)},
		{contract(0, percent(50)), 109, split(59, 50, 0)},
		{contract(0, percent(50)), 110, split(55, 55, 0)},
		{contract(0, percent(33)), 1000, split(670, 330, 0)},
		{contract(0, percent(33)), 1014, split(684, 330, 0)},
		{contract(0, percent(33)), 1015, split(685, 330, 0)},
		{contract(0, percent(33)), 1016, split(681, 335, 0)},
		{contract(0, percent(100)), 9, split(4, 5, 0)},
		{contract(0, percent(100)), 4, split(4, 0, 0)},
		{contract(0, percent(0)), 1000, split(1000, 0, 0)},
		{contract(0, percent(1)), 499, split(499, 0, 0)},
		{contract(0, percent(1)), 500, split(495, 5, 0)},
		{contract(0, percent(50), percent(50)), 100, split(25, 75, 0)},
		{contract(0, percent(100), percent(100)), 9, split(4, 5, 0)},
		// a Steps: both parts are rounded together, and above its Cents only
		{contract(0, steps(100, 40, 60)), 100, split(60, 40, 0)},
		{contract(0, steps(100, 40, 60)), 50, split(30, 20, 0)},
		{contract(0, steps(100, 40, 60)), 200, split(100, 100, 0)},
		{contract(0, steps(106, 40, 60)), 110, split(70, 40, 0)},
		{contract(0, steps(106, 40, 60)), 111, split(66, 45, 0)},
		{contract(0, steps(9, 50, 50)), 20, split(10, 10, 0)},
		{contract(0, steps(0, 40, 60)), 100, split(40, 60, 0)},
		{contract(0, steps(api.MaxCents, 40, 60)), 100, split(60, 40, 0)},
		{contract(0, steps(100, 100, 0)), 300, split(200, 100, 0)},
		{contract(0, steps(100, 0, 100)), 100, split(100, 0, 0)},
		{contract(0, steps(100, 0, 100)), 105, split(100, 5, 0)},
		// a Minimum counts what the owner got before it, and not what the owner gets behind it
		{contract(0, minimum(60)), 100, split(40, 60, 0)},
		{contract(0, minimum(60)), 59, split(0, 59, 0)},
		{contract(0, percent(50), minimum(60)), 100, split(40, 60, 0)},
		{contract(0, minimum(60), percent(50)), 100, split(20, 80, 0)},
		{contract(0, percent(50), minimum(50)), 100, split(50, 50, 0)},
		{contract(0, percent(50), minimum(49)), 100, split(50, 50, 0)},
		{contract(0, percent(50), minimum(51)), 100, split(49, 51, 0)},
		{contract(0, minimum(10), minimum(30), minimum(20)), 100, split(70, 30, 0)},
		{falling(), 9, split(1, 8, 0)},
		{falling(), 10, split(5, 5, 0)},
		// numbers that a kind does not use
		{contract(70, api.Clause{Kind: api.Front, Cents: 10, Part: 50, More: 50}, minimum(99)), 50, split(10, 40, 0)},
		{contract(70, api.Clause{Kind: api.Repay, Cents: 10, Part: 50, More: 50}, minimum(99)), 50, split(10, 40, 10)},
		{contract(70, api.Clause{Kind: api.Percent, Cents: 10, Part: 50, More: 90}), 50, split(25, 25, 0)},
		{contract(70, api.Clause{Kind: api.Minimum, Cents: 10, Part: 50, More: 50}), 50, split(40, 10, 0)},
		{widest(), api.MaxCents, split(4, 9995, 0)},
	} {
		if got, e := shares.Week(x.s, x.takings); got != x.want || e != api.OK {
			t.Errorf("%d: Week of %v, %d = %v, %d, not %v", i, x.s, x.takings, got, e, x.want)
		}
	}
}

// P9.3: the chapter's example, loans that end before, at and behind the last week, no weeks, and as many as there can be.
func TestWeeks(t *testing.T) {
	for i, x := range []struct {
		s       api.Share
		takings []int
		want    []api.Split
		owed    int
	}{
		{contractC(), []int{2013, 2013, 2013}, []api.Split{split(1488, 525, 300), split(1488, 525, 300), split(1368, 645, 100)}, 0},
		{contractC(), []int{400, 900}, []api.Split{split(400, 0, 0), split(800, 100, 300)}, 400},
		{contractC(), nil, nil, 700},
		{contractC(), []int{}, nil, 700},
		{contractC(), []int{0}, []api.Split{{}}, 700},
		{api.Share{}, []int{5, 0}, []api.Split{split(5, 0, 0), {}}, 0},
		{contract(10, repay(4), percent(100)), []int{9, 9, 9, 9, 2, 9}, []api.Split{split(4, 5, 4), split(4, 5, 4), split(4, 5, 2), split(4, 5, 0), split(2, 0, 0), split(4, 5, 0)}, 0},
		{contract(10, repay(4), repay(4)), []int{9, 9}, []api.Split{split(9, 0, 8), split(9, 0, 2)}, 0},
		{contract(10, front(4)), slices.Repeat([]int{6}, api.MaxPay), slices.Repeat([]api.Split{split(6, 0, 0)}, api.MaxPay), 10},
		{contract(api.MaxCents, repay(api.MaxCents)), []int{9000, 9000}, []api.Split{split(9000, 0, 9000), split(9000, 0, 999)}, 0},
	} {
		l, owed, e := shares.Weeks(x.s, x.takings)
		if !slices.Equal(l, x.want) || owed != x.owed || e != api.OK {
			t.Errorf("%d: Weeks of %v, %v = %v, %d, %d", i, x.s, x.takings, l, owed, e)
		}
	}
}

// number compares the answer of a function with what it has to say, -1: ErrNone.
func number(t *testing.T, asked string, s api.Share, of, got int, e api.Errno, want int) {
	t.Helper()
	if want < 0 && (got != 0 || e != api.ErrNone) || want >= 0 && (got != want || e != api.OK) {
		t.Errorf("%s of %v, %d = %d, %d, not %d", asked, s, of, got, e, want)
	}
}

// P9.4: the chapter's example, goals that no takings and just all takings reach, and takings that are enough though more are not.
func TestEnough(t *testing.T) {
	for _, x := range []struct {
		s          api.Share
		goal, want int // -1: ErrNone
	}{
		{contractC(), 450, 1250},
		{contractC(), 0, 0},
		{contractC(), 1, 801},
		{contractC(), 451, 1892},
		{contractC(), 455, 1892},
		{contractC(), 456, 1900},
		{contractC(), 5315, 9992},
		{contractC(), 5316, -1},
		{contractC(), api.MaxCents, -1},
		{api.Share{}, 0, 0},
		{api.Share{}, 1, -1},
		{contract(0, minimum(api.MaxCents)), api.MaxCents, api.MaxCents},
		{contract(0, minimum(api.MaxCents)), 7777, 7777},
		{contract(0, front(1), minimum(api.MaxCents)), api.MaxCents - 1, api.MaxCents},
		{contract(0, front(1), minimum(api.MaxCents)), api.MaxCents, -1},
		{contract(0, percent(100)), 9995, 9995},
		{contract(0, percent(100)), 9996, -1},
		{contract(0, percent(100)), 6, 10},
		{contract(500, repay(500), percent(50)), 5, 510},
		{falling(), 6, 9},
		{falling(), 8, 9},
		{falling(), 9, 11},
		{falling(), 3, 3},
		{falling(), 4, 9},
	} {
		got, e := shares.Enough(x.s, x.goal)
		number(t, "Enough", x.s, x.goal, got, e, x.want)
	}
}

// P9.5: the chapter's example, nothing owed, nothing paid back, and 1000 weeks and one more.
func TestRepaid(t *testing.T) {
	for _, x := range []struct {
		s             api.Share
		takings, want int // -1: ErrNone
	}{
		{contractC(), 2013, 3},
		{contractC(), 800, 3},
		{contractC(), 799, 3},
		{contractC(), 733, 4},
		{contractC(), 734, 3},
		{contractC(), 501, 700},
		{contractC(), 500, -1},
		{contractC(), 0, -1},
		{owes(contractC(), 0), 0, 0},
		{owes(contractC(), 0), 2013, 0},
		{owes(contractC(), 1), 2013, 1},
		{owes(contractC(), 600), 2013, 2},
		{owes(contractC(), 601), 2013, 3},
		{api.Share{}, 0, 0},
		{contract(1), api.MaxCents, -1},
		{contract(1, repay(0)), api.MaxCents, -1},
		{contract(999, repay(1)), 1, 999},
		{contract(1000, repay(1)), 1, 1000},
		{contract(1001, repay(1)), 1, -1},
		{contract(1001, repay(1), repay(1)), 2, 501},
		{contract(api.MaxCents, repay(10)), 10, 1000},
		{contract(api.MaxCents, repay(10)), 9, -1},
		{contract(api.MaxCents, repay(9)), 10, -1},
		{contract(api.MaxCents, repay(api.MaxCents)), api.MaxCents, 1},
	} {
		got, e := shares.Repaid(x.s, x.takings)
		number(t, "Repaid", x.s, x.takings, got, e, x.want)
	}
}

// P9.6: the chapter's examples, and what each clause gives, to whomever.
func TestGives(t *testing.T) {
	for _, x := range []struct {
		s       api.Share
		takings int
		want    []int
	}{
		{contractC(), 2013, []int{500, 300, 525, 0}},
		{contractC(), 900, []int{500, 300, 40, 60}},
		{contractC(), 400, []int{400, 0, 0, 0}},
		{contractC(), 0, []int{0, 0, 0, 0}},
		{owes(contractC(), 20), 2013, []int{500, 20, 695, 0}},
		{contract(50, repay(30), front(10), repay(30), percent(50), repay(30)), 100, []int{30, 10, 20, 20, 0}},
		{falling(), 9, []int{0, 3, 5}},
		{falling(), 10, []int{5, 0, 0}},
	} {
		for clause, want := range x.want {
			if got, e := shares.Gives(x.s, x.takings, clause); got != want || e != api.OK {
				t.Errorf("Gives of %v, %d, %d = %d, %d, not %d", x.s, x.takings, clause, got, e, want)
			}
		}
	}
}

// P9.7: the chapter's example, clauses that are alike, the first of several orders, no clauses and one.
func TestBest(t *testing.T) {
	for _, x := range []struct {
		s       api.Share
		takings int
		want    []int
	}{
		{contractC(), 2013, []int{3, 2, 0, 1}},
		{contractC(), 0, []int{0, 1, 2, 3}},
		{owes(contractC(), 0), 400, []int{1, 2, 3, 0}},
		{api.Share{}, 2013, nil},
		{contract(700), 2013, nil},
		{contract(0, front(5)), 2013, []int{0}},
		{contract(0, front(5), front(5), front(5)), 2013, []int{0, 1, 2}},
		{contract(0, percent(10), percent(10), front(100)), 1000, []int{0, 1, 2}},
		{contract(0, front(100), percent(10), percent(10)), 1000, []int{1, 2, 0}},
		{contract(0, percent(50), minimum(50)), 100, []int{1, 0}},
		{contract(0, minimum(50), percent(50)), 100, []int{0, 1}},
		{contract(0, percent(50), minimum(100)), 100, []int{0, 1}},
		{contract(9, repay(5), minimum(7)), 12, []int{0, 1}},
		{contract(9, repay(5), minimum(8)), 12, []int{1, 0}},
		{widest(), api.MaxCents, []int{0, 1, 2, 3, 4}},
		// each cent counts, and the best order can end with the first clause
		{contract(0, front(1), minimum(10), minimum(20), minimum(30), minimum(40)), 40, []int{1, 2, 3, 4, 0}},
		{contract(0, front(1), minimum(40), minimum(20), minimum(30), minimum(10)), 40, []int{1, 0, 2, 3, 4}},
	} {
		if got, e := shares.Best(x.s, x.takings); !slices.Equal(got, x.want) || e != api.OK {
			t.Errorf("Best of %v, %d = %v, %d, not %v", x.s, x.takings, got, e, x.want)
		}
	}
}

// P9.8: the chapter's example, and clauses without which the owner gets more, less and the same.
func TestWithout(t *testing.T) {
	for _, x := range []struct {
		s       api.Share
		takings int
		want    []int
	}{
		{contractC(), 2013, []int{300, 180, -75, 0}},
		{contractC(), 900, []int{350, 300, 0, -60}},
		{contractC(), 400, []int{100, 0, 0, 0}},
		{contract(0, percent(50)), 99, []int{-45}},
		{contract(0, percent(50), percent(50)), 100, []int{-25, -25}},
		{contract(0, minimum(60), percent(50)), 100, []int{-30, -20}},
		{contract(0, minimum(60), minimum(60)), 100, []int{0, 0}},
		{falling(), 9, []int{0, -3, -5}},
		{falling(), 10, []int{3, 0, 0}},
		{contract(0, front(9), minimum(10)), 10, []int{9, -1}},
	} {
		for clause, want := range x.want {
			if got, e := shares.Without(x.s, x.takings, clause); got != want || e != api.OK {
				t.Errorf("Without of %v, %d, %d = %d, %d, not %d", x.s, x.takings, clause, got, e, want)
			}
		}
	}
}

// P9.9: the chapter's example, no gift, a gift of all takings and of more than these, and one that a Minimum counts.
func TestGift(t *testing.T) {
	for _, x := range []struct {
		s             api.Share
		takings, gift int
		want          api.Split
	}{
		{contractC(), 2013, 100, split(1448, 565, 300)},
		{contractC(), 2013, 0, split(1488, 525, 300)},
		{contractC(), 2013, 2013, split(0, 2013, 0)},
		{contractC(), 2013, 2014, split(0, 2013, 0)},
		{contractC(), 2013, api.MaxCents, split(0, 2013, 0)},
		{contractC(), 2013, 2012, split(1, 2012, 0)},
		{contractC(), 0, 100, split(0, 0, 0)},
		{contractC(), 900, 20, split(800, 100, 300)},
		{api.Share{}, 100, 30, split(70, 30, 0)},
		{contract(0, minimum(50)), 100, 30, split(50, 50, 0)},
		{contract(0, minimum(50)), 100, 60, split(40, 60, 0)},
		{contract(0, percent(50), minimum(50)), 100, 30, split(35, 65, 0)},
		{contract(0, percent(50), minimum(70)), 100, 30, split(30, 70, 0)},
		{contract(40, repay(40)), 50, 30, split(20, 30, 20)},
	} {
		if got, e := shares.Gift(x.s, x.takings, x.gift); got != x.want || e != api.OK {
			t.Errorf("Gift of %v, %d, %d = %v, %d, not %v", x.s, x.takings, x.gift, got, e, x.want)
		}
	}
}

// boxX is the box of the examples of chapter 5, with other plays: of its 45 cents 10 are marked; with 6 plays 5 cents are missing.
func boxX(plays int) api.Box {
	return api.Box{
		Wheel: api.Wheel{Round: 50, Notches: []int{10, 20, 25}, Coins: []int{5, 10, 25}},
		Found: []int{0, 2, 1}, Marked: []int{0, 1, 0}, Slugs: []int{0, 0, 0}, Plays: plays,
	}
}

// cent is a box with so many coins of a cent, each of which gives a play, and so many plays.
func cent(found, plays int) api.Box {
	return api.Box{Wheel: api.Wheel{Round: 1, Notches: []int{1}, Coins: []int{1}}, Found: []int{found}, Marked: []int{0}, Slugs: []int{0}, Plays: plays}
}

// P9.10: a box of which nothing is missing, one of which something is, one that cannot be explained, marked coins and slugs, and cents with which the owner gets less.
func TestBox(t *testing.T) {
	slugs := boxX(5)
	slugs.Found, slugs.Slugs = []int{0, 1, 1}, []int{0, 1, 0}
	for i, x := range []struct {
		s    api.Share
		b    api.Box
		want api.Split
		more int
	}{
		{contract(20, repay(20), percent(50)), boxX(5), split(30, 5, 20), 0},
		{contract(20, repay(20), percent(50)), boxX(6), split(30, 5, 20), 5},
		{contract(20, repay(20), percent(50)), boxX(2), split(30, 5, 20), 0},
		{contract(10, repay(10), percent(50)), slugs, split(20, 5, 10), 0},
		{contract(0, minimum(37)), boxX(6), split(0, 35, 0), 2},
		{contract(0, minimum(35)), boxX(6), split(0, 35, 0), 0},
		{contract(0, minimum(100)), boxX(6), split(0, 35, 0), 5},
		{api.Share{}, boxX(6), split(35, 0, 0), 0},
		{contract(0, minimum(100)), boxX(api.MaxRegister), split(0, 35, 0), 0},
		{falling(), cent(9, 9), split(1, 8, 0), 0},
		{falling(), cent(9, 10), split(1, 8, 0), -3},
		{falling(), cent(9, 11), split(1, 8, 0), 2},
		{falling(), cent(9, 12), split(1, 8, 0), 0},
		{falling(), cent(9, 8), split(1, 8, 0), 0},
		{falling(), cent(0, 0), split(0, 0, 0), 0},
	} {
		if got, more, e := shares.Box(x.s, x.b); got != x.want || more != x.more || e != api.OK {
			t.Errorf("%d: Box of %v, %v = %v, %d, %d, not %v, %d", i, x.s, x.b, got, more, e, x.want, x.more)
		}
	}
}

// P9.2, P9.6, P9.9: contracts drawn as the second look settles them.
func TestSplitsAsLookedAt(t *testing.T) {
	for _, l := range []limits{few, some, full} {
		for s, draw := range drawn(400, l) {
			takings, gift := draw.sum(), draw.sum()/2
			x := settle(s, takings, 0)
			if got, e := shares.Week(s, takings); got != x.Split || e != api.OK {
				t.Errorf("Week of %v, %d = %v, %d, not %v", s, takings, got, e, x.Split)
			}
			for clause, want := range x.gives {
				if got, e := shares.Gives(s, takings, clause); got != want || e != api.OK {
					t.Errorf("Gives of %v, %d, %d = %d, %d, not %d", s, takings, clause, got, e, want)
				}
			}
			y := settle(s, takings, gift)
			if got, e := shares.Gift(s, takings, gift); got != y.Split || e != api.OK {
				t.Errorf("Gift of %v, %d, %d = %v, %d, not %v", s, takings, gift, got, e, y.Split)
			}
		}
	}
}

// P9.3, P9.5: weeks drawn as the second look settles them, one after the other.
func TestWeeksAsLookedAt(t *testing.T) {
	late, never := 0, 0
	for _, l := range []limits{few, some, full} {
		for s, draw := range drawn(150, l) {
			weeks := draw.weeks(api.MaxPay)
			want, left := weeksBy(s, weeks)
			if got, owed, e := shares.Weeks(s, weeks); !slices.Equal(got, want) || owed != left || e != api.OK {
				t.Errorf("Weeks of %v, %v = %v, %d, %d, not %v, %d", s, weeks, got, owed, e, want, left)
			}
			takings := draw.sum()
			count := repaidBy(s, takings)
			got, e := shares.Repaid(s, takings)
			number(t, "Repaid", s, takings, got, e, count)
			if count > 1 {
				late++
			}
			if count < 0 {
				never++
			}
		}
	}
	if late < 30 || never < 30 {
		t.Errorf("only %d loans are paid back after the first week, %d never", late, never)
	}
}

// P9.4: goals drawn, for which the second look tries all takings.
func TestEnoughAsLookedAt(t *testing.T) {
	none := 0
	for _, l := range []limits{few, some} {
		for s, draw := range drawn(60, l) {
			goal := draw.sum() / 2
			want := enoughBy(s, goal, l.takings)
			got, e := shares.Enough(s, goal)
			if want < 0 && e == api.OK && got > l.takings {
				continue
			}
			number(t, "Enough", s, goal, got, e, want)
			if want < 0 {
				none++
			}
		}
	}
	if none < 20 {
		t.Errorf("only %d goals are too great", none)
	}
}

// P9.7, P9.8: contracts drawn, of which the second look tries all orders, and leaves out each clause.
func TestOtherContractsAsLookedAt(t *testing.T) {
	moved, more, less := 0, 0, 0
	for _, l := range []limits{few, some, full} {
		for s, draw := range drawn(100, l) {
			takings := draw.sum()
			want := bestBy(s, takings)
			if got, e := shares.Best(s, takings); !slices.Equal(got, want) || e != api.OK {
				t.Errorf("Best of %v, %d = %v, %d, not %v", s, takings, got, e, want)
			}
			if !slices.IsSorted(want) {
				moved++
			}
			for clause := range s.Clauses {
				want := ownerOf(lacks(s, clause), takings) - ownerOf(s, takings)
				if got, e := shares.Without(s, takings, clause); got != want || e != api.OK {
					t.Errorf("Without of %v, %d, %d = %d, %d, not %d", s, takings, clause, got, e, want)
				}
				if want > 0 {
					more++
				}
				if want < 0 {
					less++
				}
			}
		}
	}
	if moved < 60 || more < 60 || less < 60 {
		t.Errorf("only %d orders are better; without only %d clauses the owner gets more, without %d less", moved, more, less)
	}
}
