package royalties_test

import (
	"math/big"
	"slices"
	"testing"

	"shellac/api"
	"shellac/royalties"
)

// P10.2: the chapter's examples, fractions that can be made lower, whole numbers, nothing, and writers with parts of several sides.
func TestExact(t *testing.T) {
	for i, x := range []struct {
		r             api.Royal
		who, num, den int
	}{
		{royalQ(), 0, 75, 2}, {royalQ(), 1, 45, 1}, {royalQ(), 2, 35, 2},
		{pools(royalQ(), 0), 1, 0, 1}, {pools(royalQ(), 1), 0, 3, 8}, {pools(royalQ(), 1), 1, 9, 20}, {pools(royalQ(), 1), 2, 7, 40},
		{pools(royalQ(), 40), 2, 7, 1},
		{royal(50, owes(9, 9), side(1, part(0, 100))), 0, 50, 1}, {royal(50, owes(9, 9), side(1, part(0, 100))), 1, 0, 1},
		{royal(50, owes(0, 0), side(1, part(0, 100)), side(0, part(1, 100))), 1, 0, 1},
		{alone(100, 1, 1, 1), 0, 100, 3}, {alone(99, 1, 1, 1), 2, 33, 1}, {alone(100, 2, 4), 1, 200, 3},
		{royal(1, owes(0, 0), side(api.MaxHeard, part(0, 1), part(1, 99))), 0, 1, 100},
		{royal(1, owes(0, 0), side(api.MaxHeard, part(0, 100)), side(9998, part(1, 100))), 0, 9999, 19997},
		{widest(), 0, 189981, 20}, {widest(), 5, 9999, 100},
	} {
		if num, den, e := royalties.Exact(x.r, x.who); num != x.num || den != x.den || e != api.OK {
			t.Errorf("%d: Exact of %v, %d = %d, %d, %d, not %d, %d", i, x.r, x.who, num, den, e, x.num, x.den)
		}
	}
}

// list compares the answer of a function with what it has to say.
func list(t *testing.T, asked string, of func(api.Royal) ([]int, api.Errno), r api.Royal, want []int) {
	t.Helper()
	if got, e := of(r); !slices.Equal(got, want) || e != api.OK {
		t.Errorf("%s of %v = %v, %d, not %v", asked, r, got, e, want)
	}
}

// number compares the answer of a function with what it has to say, -1: ErrNone.
func number(t *testing.T, asked string, r api.Royal, of any, got int, e api.Errno, want int) {
	t.Helper()
	if want < 0 && (got != 0 || e != api.ErrNone) || want >= 0 && (got != want || e != api.OK) {
		t.Errorf("%s of %v, %v = %d, %d, not %d", asked, r, of, got, e, want)
	}
}

// P10.3: the chapter's examples, equal rests, no rests, a lesser part with a greater rest, one writer, and writers without parts.
func TestShares(t *testing.T) {
	for _, x := range []struct {
		r    api.Royal
		want []int
	}{
		{royalQ(), owes(38, 45, 17)}, {pools(royalQ(), 15), owes(6, 7, 2)}, {pools(royalQ(), 14), owes(5, 6, 3)}, {pools(royalQ(), 0), owes(0, 0, 0)},
		{pools(royalQ(), 40), owes(15, 18, 7)}, {pools(royalQ(), 1), owes(0, 1, 0)}, {pools(royalQ(), 3), owes(1, 1, 1)},
		{alone(0, 1, 1, 1), owes(0, 0, 0)}, {alone(1, 1, 1, 1), owes(1, 0, 0)}, {alone(2, 1, 1, 1), owes(1, 1, 0)}, {alone(3, 1, 1, 1), owes(1, 1, 1)},
		{alone(5, 1, 1, 1, 1, 1, 1), owes(1, 1, 1, 1, 1, 0)}, {alone(9, 1, 1, 1, 1, 1, 1), owes(2, 2, 2, 1, 1, 1)},
		{alone(10, 2, 1, 2, 1), owes(3, 2, 3, 2)}, {alone(8, 1, 2, 1, 2), owes(1, 3, 1, 3)},
		{alone(10, 6, 6, 2), owes(4, 4, 2)}, {alone(11, 6, 6, 2), owes(5, 5, 1)},
		{alone(100, 0, 1, 0), owes(0, 100, 0)}, {alone(1, 0, 0, 5, 5), owes(0, 0, 1, 0)}, {alone(3, 0, 5, 0, 5), owes(0, 2, 0, 1)},
		{royal(77, owes(api.MaxOwed), side(2, part(0, 100)), side(0, part(0, 100))), owes(77)},
		{royal(50, debts(3), side(1, part(1, 100))), owes(0, 50, 0)},
		{royal(3, owes(0, 0), side(1, part(0, 50), part(1, 50))), owes(2, 1)},
		{royal(3, owes(0, 0), side(1, part(0, 49), part(1, 51))), owes(1, 2)},
		{widest(), owes(9499, 100, 100, 100, 100, 100)},
	} {
		list(t, "Shares", royalties.Shares, x.r, x.want)
	}
}

// P10.4, P10.5: the chapter's examples, and a share that is more than, less than and just what is owed.
func TestPaidAndLeft(t *testing.T) {
	for _, x := range []struct {
		r          api.Royal
		paid, left []int
	}{
		{royalQ(), owes(38, 5, 17), owes(0, 0, 0)},
		{with(royalQ(), func(r *api.Royal) { r.Owed[1] = 50 }), owes(38, 0, 17), owes(0, 5, 0)},
		{with(royalQ(), func(r *api.Royal) { r.Owed[1] = 45 }), owes(38, 0, 17), owes(0, 0, 0)},
		{with(royalQ(), func(r *api.Royal) { r.Owed = owes(37, 44, 16) }), owes(1, 1, 1), owes(0, 0, 0)},
		{with(royalQ(), func(r *api.Royal) { r.Owed = owes(39, 46, 18) }), owes(0, 0, 0), owes(1, 1, 1)},
		{with(royalQ(), func(r *api.Royal) { r.Owed = owes(39, 0, 9999) }), owes(0, 45, 0), owes(1, 0, 9982)},
		{royal(50, owes(20, 20), side(1, part(1, 100))), owes(0, 30), owes(20, 0)},
		{pools(royalQ(), 0), owes(0, 0, 0), owes(0, 40, 0)},
		{alone(9, 1), owes(9), owes(0)},
		{widest(), debts(6), owes(500, 9899, 9899, 9899, 9899, 9899)},
	} {
		list(t, "Paid", royalties.Paid, x.r, x.paid)
		list(t, "Left", royalties.Left, x.r, x.left)
	}
}

// P10.6: the chapter's example, what is lost between sides, within a side, and by rounding twice; nothing lost.
func TestLost(t *testing.T) {
	for _, x := range []struct {
		r    api.Royal
		want int
	}{
		{royalQ(), 2}, {pools(royalQ(), 0), 0}, {pools(royalQ(), 40), 0},
		// of 74 and 24 cents: 37, 37; 7, 16
		{pools(royalQ(), 99), 2},
		{alone(100, 1, 2), 1}, {alone(99, 1, 2), 0}, {alone(1, 1, 1), 1}, {alone(5, 1, 1, 1, 1, 1, 1), 5}, {alone(100, 7), 0}, {alone(100, 0, 7), 0},
		{royal(101, owes(0, 0), side(1, part(0, 50), part(1, 50))), 1},
		{royal(99, owes(0, 0), side(1, part(0, 1), part(1, 99))), 1},
		{royal(5, debts(6), side(3, part(0, 17), part(1, 17), part(2, 17), part(3, 17), part(4, 16), part(5, 16))), 5},
		// of 66 and 133 cents: 1, 64; 133; rounded once it would be 2, 64; 133
		{royal(200, owes(0, 0, 0), side(1, part(0, 3), part(1, 97)), side(2, part(2, 100))), 2},
		// each of two sides by itself, though the parts are alike
		{royal(7, owes(0, 0), side(1, part(0, 50), part(1, 50)), side(1, part(0, 50), part(1, 50))), 3},
		{royal(7, owes(0, 0), side(2, part(0, 50), part(1, 50))), 1},
		// 1666 six times: 1582 and five times 16
		{widest(), 27},
	} {
		got, e := royalties.Lost(x.r)
		number(t, "Lost", x.r, nil, got, e, x.want)
	}
}

// P10.7: the chapter's example, no cents, a Pool that is enough though a greater one is not, and the greatest Pool; the royal's own Pool does not matter.
func TestLeast(t *testing.T) {
	for _, x := range []struct {
		r                api.Royal
		who, cents, want int
	}{
		{royalQ(), 2, 18, 101}, {royalQ(), 2, 3, 14}, {royalQ(), 2, 2, 9}, {royalQ(), 2, 1, 3}, {royalQ(), 2, 4, 21}, {royalQ(), 2, 0, 0},
		{royalQ(), 0, 1, 2}, {royalQ(), 0, 0, 0}, {royalQ(), 1, 1, 1}, {royalQ(), 0, 3750, api.MaxPool}, {royalQ(), 1, 3750, 8333},
		{pools(royalQ(), 0), 2, 18, 101}, {pools(royalQ(), api.MaxPool), 2, 3, 14},
		{alone(5, 1), 0, 77, 77}, {alone(5, 1), 0, api.MaxPool, api.MaxPool},
		{alone(5, 1, 1), 0, 3, 5}, {alone(5, 1, 1), 1, 3, 6}, {alone(5, 1, 1), 0, 5000, api.MaxPool},
		{royal(50, owes(0, 0), side(1, part(0, 100))), 1, 0, 0},
		{with(royalQ(), func(r *api.Royal) { r.Owed[2] = 500 }), 2, 18, 101},
	} {
		got, e := royalties.Least(x.r, x.who, x.cents)
		number(t, "Least", x.r, [2]int{x.who, x.cents}, got, e, x.want)
	}
}

// P10.8: the chapter's example, and the royal's own Pool, which counts, too.
func TestOdd(t *testing.T) {
	for _, x := range []struct {
		r         api.Royal
		who, want int
	}{
		{royalQ(), 2, 15}, {pools(royalQ(), 15), 2, 15}, {pools(royalQ(), 16), 2, 15}, {pools(royalQ(), api.MaxPool), 2, 15},
		{pools(royalQ(), 14), 2, -1}, {pools(royalQ(), api.MaxPool), 0, -1}, {pools(royalQ(), api.MaxPool), 1, -1},
		// 3 cents: 1 1 1; 4 cents: 2 2 0
		{alone(4, 6, 6, 2), 2, 4}, {alone(3, 6, 6, 2), 2, -1}, {alone(api.MaxPool, 6, 6, 2), 2, 4}, {alone(api.MaxPool, 6, 6, 2), 0, -1},
		{with(royalQ(), func(r *api.Royal) { r.Owed[2] = 500 }), 2, 15},
	} {
		got, e := royalties.Odd(x.r, x.who)
		number(t, "Odd", x.r, x.who, got, e, x.want)
	}
}

// eachDrawn does something with drawn royals of all sizes.
func eachDrawn(count int, do func(r api.Royal, draw drawer)) {
	for _, l := range []limits{few, some, full} {
		for r, draw := range drawn(count, l) {
			do(r, draw)
		}
	}
}

// P10.2: exact parts as they are added side by side.
func TestExactAsLookedAt(t *testing.T) {
	nothing, whole := 0, 0
	eachDrawn(200, func(r api.Royal, _ drawer) {
		for who, want := range exactBy(r) {
			num, den, e := royalties.Exact(r, who)
			if big.NewInt(int64(num)).Cmp(want.Num()) != 0 || big.NewInt(int64(den)).Cmp(want.Denom()) != 0 || e != api.OK {
				t.Errorf("Exact of %v, %d = %d, %d, %d, not %v", r, who, num, den, e, want)
			}
			if num == 0 {
				nothing++
			} else if den == 1 {
				whole++
			}
		}
	})
	if nothing < 50 || whole < 50 {
		t.Errorf("only %d exact parts are 0, %d whole numbers", nothing, whole)
	}
}

// P10.3 to P10.6: shares, what is paid, left and lost of drawn royals, cent by cent.
func TestSharesAsLookedAt(t *testing.T) {
	paid, left, lost := 0, 0, 0
	eachDrawn(300, func(r api.Royal, _ drawer) {
		list(t, "Shares", royalties.Shares, r, sharesBy(r))
		list(t, "Paid", royalties.Paid, r, paidBy(r))
		list(t, "Left", royalties.Left, r, leftBy(r))
		got, e := royalties.Lost(r)
		want := lostBy(r)
		number(t, "Lost", r, nil, got, e, want)
		for who, owed := range r.Owed {
			if owed > 0 && paidBy(r)[who] > 0 {
				paid++
			}
			if leftBy(r)[who] > 0 {
				left++
			}
		}
		if want > 0 {
			lost++
		}
	})
	if paid < 100 || left < 100 || lost < 100 {
		t.Errorf("only %d writers who owed are paid, %d owe still; of only %d royals something is lost", paid, left, lost)
	}
}

// P10.3: equal rests, of which only some get a cent, are drawn often enough.
func TestEqualRests(t *testing.T) {
	equal := 0
	for r := range drawn(500, few) {
		exact, shares := exactBy(r), sharesBy(r)
		for a := range exact {
			for b := range a {
				rest := func(who int) *big.Rat {
					return new(big.Rat).Sub(exact[who], big.NewRat(int64(floor(exact[who])), 1))
				}
				if rest(a).Cmp(rest(b)) == 0 && shares[b] > floor(exact[b]) && shares[a] == floor(exact[a]) {
					equal++
				}
			}
		}
	}
	if equal < 30 {
		t.Errorf("only %d equal rests are told apart by the numbers of the writers", equal)
	}
}

// P10.7, P10.8: drawn royals, for which the second look tries each Pool.
func TestPoolsAsLookedAt(t *testing.T) {
	odd, above, again := 0, 0, 0
	for _, l := range []limits{few, some} {
		for r, draw := range drawn(60, l) {
			who := draw.IntN(len(r.Owed))
			shares := sharesOf(r, who, draw.pool)
			want := oddBy(shares[:r.Pool+1])
			got, e := royalties.Odd(r, who)
			number(t, "Odd", r, who, got, e, want)
			if want >= 0 {
				odd++
			} else if oddBy(shares) >= 0 {
				above++
			}
			for cents := range slices.Max(shares) + 1 {
				want := leastBy(shares, cents)
				got, e := royalties.Least(r, who, cents)
				number(t, "Least", r, [2]int{who, cents}, got, e, want)
				if slices.Min(shares[want:]) < cents {
					again++
				}
			}
		}
	}
	if odd < 10 || above < 2 || again < 10 {
		t.Errorf("only %d Pools are odd, %d above the royal's own; only %d are enough though a greater one is not", odd, above, again)
	}
}
