package royalties_test

import (
	"fmt"
	"math"
	"slices"
	"testing"

	"shellac/api"
	"shellac/royalties"
)

// answers returns all that the functions say of arguments, as one text.
func answers(r api.Royal, who, cents int) string {
	num, den, e := royalties.Exact(r, who)
	odd, f := royalties.Odd(r, who)
	least, g := royalties.Least(r, who, cents)
	lost, h := royalties.Lost(r)
	return fmt.Sprint(said(r), "; ", num, den, e, odd, f, least, g, lost, h)
}

// P1: every function returns, whatever it is given.
func TestAnyArguments(t *testing.T) {
	wild := []api.Royal{
		royal(math.MaxInt, owes(math.MaxInt, math.MinInt), side(math.MaxInt, part(math.MaxInt, math.MaxInt), part(math.MinInt, math.MinInt))),
		royal(math.MinInt, debts(3), slices.Repeat([]api.RoyalSide{side(math.MinInt, part(0, 100))}, 6)...),
		royal(5, debts(6), side(math.MaxInt, slices.Repeat([]api.RoyalPart{part(1, math.MaxInt)}, 1000)...)),
		royal(5, debts(200), side(1, part(199, 100))),
	}
	numbers := []int{0, 1, 5, 6, 100, api.MaxPool, api.MaxPool + 1, -1, math.MinInt, math.MaxInt}
	for i, r := range slices.Concat(validRoyals(), invalidRoyals(), wild) {
		for _, who := range numbers {
			answers(r, who, numbers[i%len(numbers)])
		}
	}
}

// P1: the greatest royals are done in time, and no number is too great.
func TestGreatestArguments(t *testing.T) {
	for range 20 {
		if n, e := royalties.Least(widest(), 5, api.MaxPool); n != 0 || e != api.ErrNone {
			t.Errorf("Least of %v = %d, %d", widest(), n, e)
		}
		if n, e := royalties.Odd(widest(), 0); n != 0 || e != api.ErrNone {
			t.Errorf("Odd of %v = %d, %d", widest(), n, e)
		}
	}
	r := widest()
	for i := range r.Sides {
		r.Sides[i].Parts = []api.RoyalPart{part(5, 100)}
	}
	if num, den, e := royalties.Exact(r, 5); num != api.MaxPool || den != 1 || e != api.OK {
		t.Errorf("Exact of %v = %d, %d, %d", r, num, den, e)
	}
	if n, e := royalties.Least(r, 5, api.MaxPool); n != api.MaxPool || e != api.OK {
		t.Errorf("Least of %v = %d, %d", r, n, e)
	}
}

// R3: nil and empty lists are the same.
func TestNilAndEmpty(t *testing.T) {
	for _, x := range [][2]api.Royal{
		{royal(7, nil), royal(7, []int{}, []api.RoyalSide{}...)},
		{{Pool: 7}, {Pool: 7, Sides: []api.RoyalSide{}, Owed: []int{}}},
		{{Pool: 7, Owed: owes(3)}, {Pool: 7, Sides: []api.RoyalSide{}, Owed: owes(3)}},
		{royal(7, owes(3), api.RoyalSide{Plays: 1}), royal(7, owes(3), api.RoyalSide{Plays: 1, Parts: []api.RoyalPart{}})},
	} {
		for _, who := range []int{-1, 0, 1} {
			if a, b := answers(x[0], who, 3), answers(x[1], who, 3); a != b {
				t.Errorf("nil: %s; empty: %s", a, b)
			}
		}
	}
}

// roomy returns a copy of a list with memory behind it.
func roomy[T any](list []T) []T {
	return append(slices.Clone(list), make([]T, 2)...)[:len(list)]
}

// spoil writes over a list, and over the memory behind it.
func spoil[T any](list []T, with T) {
	list = list[:cap(list)]
	for i := range list {
		list[i] = with
	}
}

// whole is a text of a royal, with the memory behind its lists.
func whole(r api.Royal) string {
	text := fmt.Sprint(r.Pool, r.Owed[:cap(r.Owed)], r.Sides[:cap(r.Sides)])
	for _, s := range r.Sides {
		text += fmt.Sprint(s.Parts[:cap(s.Parts)])
	}
	return text
}

// R4: no argument is changed, nor the memory behind it, also if a result is changed.
func TestArgumentsStay(t *testing.T) {
	for r, draw := range drawn(40, some) {
		r.Owed, r.Sides = roomy(r.Owed), roomy(r.Sides)
		for i := range r.Sides {
			r.Sides[i].Parts = roomy(r.Sides[i].Parts)
		}
		text := whole(r)
		for who := range len(r.Owed) + 1 {
			answers(r, who, draw.IntN(draw.pool))
		}
		for _, of := range []func(api.Royal) ([]int, api.Errno){royalties.Shares, royalties.Paid, royalties.Left} {
			l, _ := of(r)
			spoil(l, 99)
		}
		if after := whole(r); after != text {
			t.Errorf("changed from %s to %s", text, after)
		}
	}
}

// R4: a result is new memory each time.
func TestResultsAreNew(t *testing.T) {
	for range 2 {
		for _, x := range []struct {
			of   func(api.Royal) ([]int, api.Errno)
			want []int
		}{
			{royalties.Shares, owes(38, 45, 17)}, {royalties.Paid, owes(38, 5, 17)}, {royalties.Left, owes(0, 0, 0)},
		} {
			list(t, "a list", x.of, royalQ(), x.want)
			l, _ := x.of(royalQ())
			spoil(l, 99)
		}
	}
}

// No state is kept: what was asked before changes no answer.
func TestNoState(t *testing.T) {
	ask := func(r api.Royal) string { return answers(r, 2, 3) }
	other := alone(77, 6, 6, 2)
	a, b := ask(royalQ()), ask(other)
	if a == b {
		t.Errorf("two royals answer the same: %s", a)
	}
	if again := ask(royalQ()); again != a {
		t.Errorf("first %s, then %s", a, again)
	}
	if again := ask(other); again != b {
		t.Errorf("first %s, then %s", b, again)
	}
}
