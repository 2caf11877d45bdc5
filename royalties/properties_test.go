package royalties_test

import (
	"fmt"
	"math/big"
	"slices"
	"testing"

	"shellac/api"
	"shellac/royalties"
)

// cents returns what a function says of each writer.
func cents(t *testing.T, of func(api.Royal) ([]int, api.Errno), r api.Royal) []int {
	t.Helper()
	l, e := of(r)
	if e != api.OK || len(l) != len(r.Owed) {
		t.Fatalf("of %v: %v, %d", r, l, e)
	}
	return l
}

func sharesIn(t *testing.T, r api.Royal) []int {
	t.Helper()
	return cents(t, royalties.Shares, r)
}

// exact returns the exact part of a writer, which is in lowest terms.
func exact(t *testing.T, r api.Royal, who int) *big.Rat {
	t.Helper()
	num, den, e := royalties.Exact(r, who)
	if e != api.OK || den < 1 {
		t.Fatalf("Exact of %v, %d = %d, %d, %d", r, who, num, den, e)
	}
	x := big.NewRat(int64(num), int64(den))
	if x.Denom().Int64() != int64(den) {
		t.Errorf("Exact of %v, %d = %d, %d, which is %v", r, who, num, den, x)
	}
	return x
}

// lost returns what is lost of a royal.
func lost(t *testing.T, r api.Royal) int {
	t.Helper()
	n, e := royalties.Lost(r)
	if e != api.OK || n < 0 || n > r.Pool {
		t.Fatalf("Lost of %v = %d, %d", r, n, e)
	}
	return n
}

// said is all that is said of a royal but Lost, as one text.
func said(r api.Royal) string {
	shares, e := royalties.Shares(r)
	paid, f := royalties.Paid(r)
	left, g := royalties.Left(r)
	text := fmt.Sprint(royalties.Check(r), shares, e, paid, f, left, g)
	for who := range r.Owed {
		num, den, e := royalties.Exact(r, who)
		odd, f := royalties.Odd(r, who)
		text += fmt.Sprint("; ", num, den, e, odd, f)
		for _, cents := range []int{1, 5, r.Pool / 2} {
			least, e := royalties.Least(r, who, cents)
			text += fmt.Sprint(", ", least, e)
		}
	}
	return text
}

// P10.9 (rounded once): the shares are the Pool together; each is the exact part, rounded down or up, and the exact part itself if that is a whole number.
func TestRoundedOnce(t *testing.T) {
	down, up, whole := 0, 0, 0
	eachDrawn(300, func(r api.Royal, _ drawer) {
		all := 0
		for who, share := range sharesIn(t, r) {
			all += share
			x := exact(t, r, who)
			low := floor(x)
			switch {
			case x.IsInt() && share == low:
				whole++
			case !x.IsInt() && share == low:
				down++
			case !x.IsInt() && share == low+1:
				up++
			default:
				t.Errorf("the share %d of %v is %d, exactly %v", who, r, share, x)
			}
		}
		if all != r.Pool {
			t.Errorf("the shares of %v are %d together", r, all)
		}
	})
	if down < 300 || up < 300 || whole < 300 {
		t.Errorf("only %d are rounded down, %d up, %d whole", down, up, whole)
	}
}

// P10.10 (any order): the order of the sides changes nothing.
func TestAnyOrder(t *testing.T) {
	moved := 0
	eachDrawn(40, func(r api.Royal, draw drawer) {
		other := with(r, func(r *api.Royal) {
			draw.Shuffle(len(r.Sides), func(a, b int) { r.Sides[a], r.Sides[b] = r.Sides[b], r.Sides[a] })
		})
		if a, b := said(r), said(other); a != b {
			t.Errorf("of %v: %s; of %v: %s", r, a, other, b)
		}
		if a, b := lost(t, r), lost(t, other); a != b {
			t.Errorf("Lost of %v = %d, of %v %d", r, a, other, b)
		}
		if fmt.Sprint(r) != fmt.Sprint(other) {
			moved++
		}
	})
	if moved < 60 {
		t.Errorf("only %d royals have sides in another order", moved)
	}
}

// P10.10 (any order): if a side is cut in two, nothing changes but Lost, which is not less.
func TestSideCutInTwo(t *testing.T) {
	cut, more := 0, 0
	eachDrawn(60, func(r api.Royal, draw drawer) {
		if len(r.Sides) == api.MaxSides {
			return
		}
		cut++
		other := with(r, func(r *api.Royal) {
			old := &r.Sides[draw.IntN(len(r.Sides))]
			plays := draw.IntN(old.Plays + 1)
			old.Plays -= plays
			r.Sides = append(r.Sides, side(plays, slices.Clone(old.Parts)...))
		})
		if a, b := said(r), said(other); a != b {
			t.Errorf("of %v: %s; of %v: %s", r, a, other, b)
		}
		a, b := lost(t, r), lost(t, other)
		if a > b {
			t.Errorf("Lost of %v = %d, of %v %d", r, a, other, b)
		}
		if a < b {
			more++
		}
	})
	if cut < 100 || more < 20 {
		t.Errorf("only %d sides are cut, with %d more is lost", cut, more)
	}
}

// joined returns a royal in which a writer has all parts of another one, too.
func joined(r api.Royal, to, from int) api.Royal {
	return with(r, func(r *api.Royal) {
		for i := range r.Sides {
			percents := map[int]int{}
			for _, p := range r.Sides[i].Parts {
				if p.Who == from {
					p.Who = to
				}
				percents[p.Who] += p.Percent
			}
			var parts []api.RoyalPart
			for who := range r.Owed {
				if percents[who] > 0 {
					parts = append(parts, part(who, percents[who]))
				}
			}
			r.Sides[i].Parts = parts
		}
	})
}

// P10.11 (two as one): if a writer has all parts of another one, too, the exact part is that of both together.
func TestTwoAsOne(t *testing.T) {
	both := 0
	eachDrawn(150, func(r api.Royal, draw drawer) {
		if len(r.Owed) < 2 {
			return
		}
		two := draw.Perm(len(r.Owed))
		other := joined(r, two[0], two[1])
		a, b := exact(t, r, two[0]), exact(t, r, two[1])
		if want := new(big.Rat).Add(a, b); exact(t, other, two[0]).Cmp(want) != 0 || exact(t, other, two[1]).Sign() != 0 {
			t.Errorf("the exact parts of %v and of %v are %v and %v in %v, %v and %v in %v", two[0], two[1], a, b, r, exact(t, other, two[0]), exact(t, other, two[1]), other)
		}
		if a.Sign() > 0 && b.Sign() > 0 {
			both++
		}
	})
	if both < 100 {
		t.Errorf("only %d times both have a part", both)
	}
}

// P10.12 (more plays): with more Plays of a side of which a writer has all, the writer's exact part is not less.
func TestMorePlays(t *testing.T) {
	more := 0
	eachDrawn(150, func(r api.Royal, draw drawer) {
		for i, s := range r.Sides {
			if len(s.Parts) > 1 || s.Plays == api.MaxHeard {
				continue
			}
			other := with(r, func(r *api.Royal) { r.Sides[i].Plays += 1 + draw.IntN(min(draw.plays, api.MaxHeard-s.Plays)) })
			who := s.Parts[0].Who
			a, b := exact(t, r, who), exact(t, other, who)
			if a.Cmp(b) > 0 {
				t.Errorf("the exact part of %d is %v in %v, %v in %v", who, a, r, b, other)
			}
			if a.Cmp(b) < 0 {
				more++
			}
		}
	})
	if more < 100 {
		t.Errorf("only %d exact parts are greater", more)
	}
}

// P10.13 (paid and owed): what a writer is paid and what they owed is together the share and what they owe still; a writer who owes still is paid 0.
func TestPaidAndOwed(t *testing.T) {
	both := 0
	eachDrawn(200, func(r api.Royal, _ drawer) {
		share, paid, left := sharesIn(t, r), cents(t, royalties.Paid, r), cents(t, royalties.Left, r)
		for who, owed := range r.Owed {
			if paid[who]+owed != share[who]+left[who] || left[who] > 0 && paid[who] != 0 || paid[who] < 0 || left[who] < 0 {
				t.Errorf("of %v, %d is paid %d of %d, owes %d", r, who, paid[who], share[who], left[who])
			}
			if owed > 0 && share[who] > 0 {
				both++
			}
		}
	})
	if both < 200 {
		t.Errorf("only %d writers who owe have a share", both)
	}
}

// P10.14 (the least pool): with Least as the Pool the share is at least so many cents, with any lesser Pool it is not.
func TestLeastPool(t *testing.T) {
	found, none := 0, 0
	eachDrawn(15, func(r api.Royal, draw drawer) {
		who, goal := draw.IntN(len(r.Owed)), draw.IntN(draw.pool+1)
		least, e := royalties.Least(r, who, goal)
		lesser := least
		if e == api.ErrNone {
			none++
			lesser = api.MaxPool + 1
		} else {
			found++
			if share := sharesIn(t, pools(r, least))[who]; e != api.OK || share < goal {
				t.Errorf("Least of %v, %d, %d = %d, %d, with the share %d", r, who, goal, least, e, share)
			}
		}
		for pool := range lesser {
			if share := sharesIn(t, pools(r, pool))[who]; share >= goal {
				t.Errorf("Least of %v, %d, %d = %d, %d; with the Pool %d the share is %d", r, who, goal, least, e, pool, share)
			}
		}
	})
	if found < 15 || none < 5 {
		t.Errorf("only %d Pools are found, %d are none", found, none)
	}
}

// P10.14 (the least pool): with Odd as the Pool the share is less than with one cent less, with any lesser Pool it is not.
func TestOddPool(t *testing.T) {
	found, none := 0, 0
	eachDrawn(40, func(r api.Royal, draw drawer) {
		who := draw.IntN(len(r.Owed))
		odd, e := royalties.Odd(r, who)
		before := r.Pool
		if e == api.ErrNone {
			none++
		} else {
			found++
			before = odd - 1
			if a, b := sharesIn(t, pools(r, odd-1))[who], sharesIn(t, pools(r, odd))[who]; e != api.OK || odd > r.Pool || a <= b {
				t.Errorf("Odd of %v, %d = %d, %d, with the share %d; with one cent less it is %d", r, who, odd, e, b, a)
			}
		}
		last := 0
		for pool := range before + 1 {
			share := sharesIn(t, pools(r, pool))[who]
			if share < last {
				t.Errorf("Odd of %v, %d = %d, %d; with the Pool %d the share is %d, with one cent less %d", r, who, odd, e, pool, share, last)
			}
			last = share
		}
	})
	if found < 15 || none < 15 {
		t.Errorf("only %d Pools are odd, %d royals have none", found, none)
	}
}

// P10.15 (as often again): with all Plays so many times as great nothing changes.
func TestAsOftenAgain(t *testing.T) {
	greater := 0
	eachDrawn(60, func(r api.Royal, draw drawer) {
		most := api.MaxHeard
		for _, s := range r.Sides {
			most = min(most, api.MaxHeard/max(1, s.Plays))
		}
		times := 1 + draw.IntN(most)
		other := with(r, func(r *api.Royal) {
			for i := range r.Sides {
				r.Sides[i].Plays *= times
			}
		})
		if a, b := said(r), said(other); a != b || lost(t, r) != lost(t, other) {
			t.Errorf("of %v: %s, lost %d; %d times as great: %s, lost %d", r, a, lost(t, r), times, b, lost(t, other))
		}
		if times > 1 {
			greater++
		}
	})
	if greater < 100 {
		t.Errorf("only %d royals are greater", greater)
	}
}
