package takings_test

import (
	"fmt"
	"math"
	"slices"
	"testing"

	"shellac/api"
	"shellac/takings"
)

// said returns all that is said of a box but Cash and the Sum of it, as one text.
func said(b api.Box) string {
	text := fmt.Sprint(takings.Check(b))
	for _, of := range []func(api.Box) (int, api.Errno){takings.Missing, takings.Skipped, takings.Short} {
		n, e := of(b)
		text += fmt.Sprint(";", n, e)
	}
	for _, of := range []func(api.Box) ([]int, api.Errno){takings.Can, takings.Which} {
		l, e := of(b)
		text += fmt.Sprint(";", l, e)
	}
	// which example is returned is free
	_, _, e := takings.Explain(b)
	return text + fmt.Sprint(";", e)
}

// answers returns all that is said of a box, as one text.
func answers(b api.Box) string {
	cash, house, slugs, e := takings.Cash(b)
	text := said(b) + fmt.Sprint(";", cash, house, slugs, e)
	cash, missing, bad, e := takings.Sum([]api.Box{b})
	return text + fmt.Sprint(";", cash, missing, bad, e)
}

// P1: every function returns, whatever it is given.
func TestAnyArguments(t *testing.T) {
	edges := []int{0, 1, 12, 13, -1, math.MaxInt, math.MinInt}
	for _, b := range append(validBoxes(), invalidBoxes()...) {
		answers(b)
	}
	for _, n := range edges {
		for _, m := range edges {
			for _, length := range []int{0, 1, 3, 4, 5, 1000} {
				b := slugs(box(wheelW(), m, slices.Repeat([]int{n}, length)...), slices.Repeat([]int{m}, length)...)
				b.Marked = slices.Repeat([]int{m}, 3)
				answers(b)
				b.Wheel = wheel(n, []int{m}, slices.Repeat([]int{n}, length))
				answers(skips(b, m))
			}
		}
	}
	takings.Sum(make([]api.Box, 1000))
}

// P1: the greatest boxes are done in time, and have few acts.
func TestGreatestArguments(t *testing.T) {
	for plays := 0; plays <= 60; plays += 4 {
		b := skips(shows(widest(), plays), 0)
		purse, acts, e := takings.Explain(b)
		if e == api.OK && !explains(b, purse, acts) || e != api.OK && e != api.ErrNone {
			t.Errorf("Explain of %v = %v, %v, %d", b, purse, acts, e)
		}
	}
	for _, found := range [][]int{{3, 3, 3, 3}, {12, 0, 0, 0}, {0, 1, 5, 6}} {
		b := widest()
		b.Found, b.Marked, b.Slugs = found, make([]int, 4), make([]int, 4)
		cash, missing, bad, e := takings.Sum(slices.Repeat([]api.Box{shows(b, 1000)}, api.MaxBoxes))
		if cash != api.MaxBoxes*worthOf(b.Wheel, found) || missing != 0 || bad != api.MaxBoxes || e != api.OK {
			t.Errorf("Sum = %d, %d, %d, %d", cash, missing, bad, e)
		}
	}
}

// R3: nil and empty lists are the same.
func TestNilAndEmpty(t *testing.T) {
	none := api.Box{Wheel: wheel(3, nil, nil)}
	empty := api.Box{Wheel: wheel(3, []int{}, []int{}), Found: []int{}, Marked: []int{}, Slugs: []int{}}
	if a, b := answers(none), answers(empty); a != b {
		t.Errorf("nil: %s; empty: %s", a, b)
	}
	if e := takings.Check(none); e != api.OK {
		t.Errorf("Check of a box without kinds: %d", e)
	}
	cash, missing, bad, e := takings.Sum(nil)
	otherCash, otherMissing, otherBad, f := takings.Sum([]api.Box{})
	if cash != otherCash || missing != otherMissing || bad != otherBad || e != f {
		t.Errorf("Sum of nil: %d, %d, %d, %d; of an empty list: %d, %d, %d, %d", cash, missing, bad, e, otherCash, otherMissing, otherBad, f)
	}
}

// padded returns a list with spare memory behind it, and all of the memory.
func padded(list []int) (part, all []int) {
	all = append(slices.Clone(list), 77, 77, 77)
	return all[:len(list)], all
}

// spoil writes over a list, and over the memory behind it.
func spoil(list []int) {
	list = list[:cap(list)]
	for i := range list {
		list[i] = 99
	}
}

// lists are all lists that are returned of a box.
func lists(b api.Box) [][]int {
	can, _ := takings.Can(b)
	which, _ := takings.Which(b)
	purse, acts, _ := takings.Explain(b)
	return [][]int{can, which, purse, acts}
}

// R4: no argument is changed, nor the memory behind it.
func TestArgumentsStay(t *testing.T) {
	for b := range drawn(60, few) {
		var all [5][]int
		b.Wheel.Notches, all[0] = padded(b.Wheel.Notches)
		b.Wheel.Coins, all[1] = padded(b.Wheel.Coins)
		b.Found, all[2] = padded(b.Found)
		b.Marked, all[3] = padded(b.Marked)
		b.Slugs, all[4] = padded(b.Slugs)
		before := fmt.Sprint(all)
		answers(b)
		for _, l := range lists(b) {
			spoil(l)
		}
		if after := fmt.Sprint(all); after != before {
			t.Errorf("changed from %s to %s", before, after)
		}
	}
}

// R4, and no state is kept: a result is new memory each time, shares none with another one, and what was asked before changes no answer.
func TestResultsAreNew(t *testing.T) {
	a, b := boxX(), shows(widest(), 3)
	first, second := answers(a), answers(b)
	if first == second {
		t.Errorf("two boxes answer the same: %s", first)
	}
	for _, x := range []api.Box{a, b} {
		l := lists(x)
		before := fmt.Sprint(l[1:])
		spoil(l[0])
		if after := fmt.Sprint(l[1:]); after != before {
			t.Errorf("changed with Can from %s to %s", before, after)
		}
		before = fmt.Sprint(l[3])
		spoil(l[2])
		if after := fmt.Sprint(l[3]); after != before {
			t.Errorf("acts changed with the purse from %s to %s", before, after)
		}
		spoil(l[1])
		spoil(l[3])
	}
	if again := answers(a); again != first {
		t.Errorf("first %s, then %s", first, again)
	}
	if again := answers(b); again != second {
		t.Errorf("first %s, then %s", second, again)
	}
}

// The same box has the same explanation each time, though the points of a search are kept in a map.
func TestSameExample(t *testing.T) {
	for b := range drawn(20, many) {
		first := fmt.Sprint(lists(b))
		for range 3 {
			if again := fmt.Sprint(lists(b)); again != first {
				t.Errorf("of %v first %s, then %s", b, first, again)
			}
		}
	}
}
