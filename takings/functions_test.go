package takings_test

import (
	"slices"
	"testing"

	"shellac/api"
	"shellac/takings"
)

// deep is a wheel that needs many selections for the most plays.
func deep() api.Wheel { return wheel(100, []int{10}, []int{10}) }

// P5.2: the chapter's example, and the edges: no coins, no kinds, no notches, slugs, and all that limits allow.
func TestCan(t *testing.T) {
	for i, x := range []struct {
		b    api.Box
		want []int
	}{
		{boxX(), []int{3, 4, 5}},
		{skips(shows(boxX(), 100), 9), []int{3, 4, 5}},
		{slugs(boxX(), 0, 1, 0), []int{3, 4, 5, 6}},
		{slugs(box(wheelW(), 0, 0, 1, 1), 0, 1, 0), []int{3, 4, 5}},
		{box(wheelW(), 0, 0, 0, 0), []int{0}},
		{box(wheelW(), 0, 1, 0, 0), []int{0}},
		{box(wheelW(), 0, 0, 0, 2), []int{3, 6}},
		{box(wheel(1, nil, nil), 0), []int{0}},
		{box(wheel(7, nil, []int{2, 3}), 0, 5, 7), []int{0}},
		{box(wheel(1, []int{1}, []int{100}), 0, 12), []int{1200}},
		{slugs(box(wheel(1, []int{1}, []int{99, 100}), 0, 1, 5), 2, 4), []int{1197}},
		// with each play the wheel can go back, or not
		{box(deep(), 0, 4), []int{1, 2, 3, 4}},
		{box(deep(), 0, 12), []int{2, 3, 4, 5, 6, 7, 8, 9, 10, 11, 12}},
		// without a play the wheel cannot go back
		{box(wheel(100, []int{10}, []int{5}), 0, 4), []int{1, 2}},
		{box(wheel(10, []int{5}, []int{3}), 0, 2), []int{1}},
		// the first coin gives two plays: two coins behind it can begin at 0
		{box(wheel(20, []int{4, 5, 10}, []int{3, 5}), 0, 2, 1), []int{2, 3, 4}},
	} {
		if l, e := takings.Can(x.b); !slices.Equal(l, x.want) || e != api.OK {
			t.Errorf("%d: Can = %v, %d", i, l, e)
		}
	}
}

// P5.3: the chapter's examples, and the edges.
func TestCash(t *testing.T) {
	for i, x := range []struct {
		b                  api.Box
		cash, house, slugs int
	}{
		{boxX(), 35, 10, 0},
		{slugs(boxX(), 0, 1, 0), 35, 10, 10},
		{slugs(boxX(), 2, 0, 3), 35, 10, 85},
		{shows(boxX(), api.MaxRegister), 35, 10, 0},
		{box(wheelW(), 0, 0, 0, 0), 0, 0, 0},
		{box(wheel(1, nil, nil), 0), 0, 0, 0},
		{box(wheelW(), 0, 2, 3, 4), 140, 0, 0},
		{with(box(wheelW(), 0, 2, 3, 4), func(b *api.Box) { b.Marked = []int{2, 3, 4} }), 0, 140, 0},
		{with(box(wheelW(), 0, 2, 3, 4), func(b *api.Box) { b.Marked = []int{0, 1, 2} }), 80, 60, 0},
		{box(wheel(1, []int{1}, []int{100}), 0, 12), 1200, 0, 0},
		{slugs(box(wheel(1, []int{1}, []int{100}), 0, 0), 12), 0, 0, 1200},
	} {
		cash, house, slugs, e := takings.Cash(x.b)
		if cash != x.cash || house != x.house || slugs != x.slugs || e != api.OK {
			t.Errorf("%d: Cash = %d, %d, %d, %d", i, cash, house, slugs, e)
		}
	}
}

// P5.4 to P5.6: the chapter's examples, and boxes of which one or two coins are missing, of one kind or of several ones.
func TestMissingWhichExplain(t *testing.T) {
	one := wheel(10, []int{10}, []int{2, 5, 10})
	each := wheel(1, []int{1}, []int{1, 2, 3, 4})
	for i, x := range []struct {
		b     api.Box
		cents int
		which []int
		purse []int // nil: there are several ones
	}{
		{boxX(), 5, []int{0}, []int{1, 0, 0}},
		{shows(boxX(), 5), 0, nil, []int{0, 0, 0}},
		{shows(boxX(), 3), 0, nil, []int{0, 0, 0}},
		{skips(shows(boxX(), 2), 1), 0, nil, []int{0, 0, 0}},
		{shows(boxX(), 7), 15, []int{0, 1}, []int{1, 1, 0}},
		{shows(boxX(), 9), 30, []int{0, 2}, []int{1, 0, 1}},
		{skips(shows(boxX(), 6), 9), 5, []int{0}, []int{1, 0, 0}},
		{skips(shows(boxX(), 0), 2), -1, nil, nil},
		{box(wheel(1, nil, nil), 0), 0, nil, []int{}},
		{box(wheelW(), 0, 0, 0, 0), 0, nil, []int{0, 0, 0}},
		{box(wheelW(), 2, 0, 0, 0), 20, []int{1}, []int{0, 2, 0}},
		{box(wheelW(), 1, 0, 0, 0), 10, []int{0, 1}, nil},
		// a coin of 10 alone, or two of 5: two kinds, but not together
		{box(one, 1, 0, 0, 0), 10, []int{1, 2}, nil},
		{box(one, 1, 0, 1, 0), 5, []int{1}, []int{0, 1, 0}},
		{box(one, 2, 0, 1, 0), 15, []int{1, 2}, []int{0, 1, 1}},
		{box(one, 2, 0, 0, 0), 20, []int{2}, []int{0, 0, 2}},
		{box(one, 3, 0, 0, 0), -1, nil, nil},
		{box(each, 9, 0, 0, 0, 0), -1, nil, nil},
		{box(each, 8, 0, 0, 0, 0), 8, []int{3}, []int{0, 0, 0, 2}},
		{box(each, 4, 0, 0, 0, 0), 4, []int{0, 1, 2, 3}, nil},
		{box(each, 5, 0, 0, 0, 0), 5, []int{0, 1, 2, 3}, nil},
		{slugs(box(each, 5, 0, 0, 0, 1), 0, 0, 0, 0), 1, []int{0}, []int{1, 0, 0, 0}},
		{slugs(box(each, 5, 0, 0, 0, 0), 0, 0, 0, 1), 1, []int{0}, []int{1, 0, 0, 0}},
		{skips(box(each, 5, 0, 0, 0, 1), 9), 1, []int{0}, []int{1, 0, 0, 0}},
		{skips(box(each, 0, 3, 0, 0, 1), 6), -1, nil, nil},
		{skips(box(each, 0, 3, 0, 0, 1), 7), 0, nil, []int{0, 0, 0, 0}},
		// up to 14 coins turned the wheel
		{box(deep(), 14, 12), 20, []int{0}, []int{2}},
		{box(deep(), 13, 12), 10, []int{0}, []int{1}},
		{box(deep(), 15, 12), -1, nil, nil},
		{slugs(box(deep(), 14, 0), 12), 20, []int{0}, []int{2}},
		{box(wheel(1, []int{1}, []int{100}), 1400, 12), 200, []int{0}, []int{2}},
		{box(wheel(1, []int{1}, []int{100}), 1401, 12), -1, nil, nil},
	} {
		cents, e := takings.Missing(x.b)
		which, f := takings.Which(x.b)
		purse, acts, g := takings.Explain(x.b)
		if x.cents < 0 {
			if e != api.ErrNone || f != api.ErrNone || g != api.ErrNone || cents != 0 || len(which)+len(purse)+len(acts) > 0 {
				t.Errorf("%d: Missing = %d, %d; Which = %v, %d; Explain = %v, %v, %d", i, cents, e, which, f, purse, acts, g)
			}
			continue
		}
		if cents != x.cents || e != api.OK || !slices.Equal(which, x.which) || f != api.OK {
			t.Errorf("%d: Missing = %d, %d; Which = %v, %d", i, cents, e, which, f)
		}
		if g != api.OK || !explains(x.b, purse, acts) || worthOf(x.b.Wheel, purse) != x.cents || x.purse != nil && !slices.Equal(purse, x.purse) {
			t.Errorf("%d: Explain = %v, %v, %d", i, purse, acts, g)
		}
	}
}

// P5.7, P5.8: the chapter's examples, and the edges: numbers between those of Can, and Skips, which does not matter.
func TestSkippedShort(t *testing.T) {
	for i, x := range []struct {
		b              api.Box
		skipped, short int // skipped -1: none
	}{
		{boxX(), -1, 1},
		{skips(boxX(), 9), -1, 1},
		{shows(boxX(), 5), 0, 0},
		{shows(boxX(), 4), 0, 0},
		{shows(boxX(), 3), 0, 0},
		{shows(boxX(), 2), 1, 0},
		{skips(shows(boxX(), 2), 9), 1, 0},
		{shows(boxX(), 0), 3, 0},
		{shows(boxX(), api.MaxRegister), -1, api.MaxRegister - 5},
		{box(wheelW(), 3, 0, 0, 2), 0, 0},
		{box(wheelW(), 4, 0, 0, 2), 2, 0},
		{box(wheelW(), 6, 0, 0, 2), 0, 0},
		{box(wheelW(), 7, 0, 0, 2), -1, 1},
		{slugs(box(wheelW(), 4, 0, 0, 1), 0, 0, 1), 2, 0},
		{box(wheel(1, nil, nil), 0), 0, 0},
		{box(wheel(1, nil, nil), 3), -1, 3},
		{box(wheel(1, []int{1}, []int{100}), 0, 12), 1200, 0},
	} {
		want := api.OK
		if x.skipped < 0 {
			x.skipped, want = 0, api.ErrNone
		}
		skipped, e := takings.Skipped(x.b)
		short, f := takings.Short(x.b)
		if skipped != x.skipped || e != want || short != x.short || f != api.OK {
			t.Errorf("%d: Skipped = %d, %d; Short = %d, %d", i, skipped, e, short, f)
		}
	}
}

// P5.9: the takings of all boxes, what is missing in those that can be explained, and how many cannot.
func TestSum(t *testing.T) {
	x, five, bad := boxX(), shows(boxX(), 5), shows(boxX(), 2)
	none := box(wheel(1, nil, nil), 0)
	for i, s := range []struct {
		l                  []api.Box
		cash, missing, bad int
	}{
		{nil, 0, 0, 0},
		{[]api.Box{}, 0, 0, 0},
		{[]api.Box{none}, 0, 0, 0},
		{[]api.Box{x}, 35, 5, 0},
		{[]api.Box{five}, 35, 0, 0},
		{[]api.Box{bad}, 35, 0, 1},
		{[]api.Box{x, bad, five}, 105, 5, 1},
		{[]api.Box{bad, x, x, bad, none}, 140, 10, 2},
		{[]api.Box{shows(x, 7), shows(x, 9), x}, 105, 50, 0},
		{[]api.Box{x, x, x, x, x}, 175, 25, 0},
		// the slug is worth nothing
		{[]api.Box{slugs(box(wheelW(), 6, 0, 0, 1), 0, 0, 1)}, 25, 0, 0},
	} {
		cash, missing, count, e := takings.Sum(s.l)
		if cash != s.cash || missing != s.missing || count != s.bad || e != api.OK {
			t.Errorf("%d: Sum = %d, %d, %d, %d", i, cash, missing, count, e)
		}
	}
}

// compare reports all that is said of a box and is not what all ways and all purses say.
func compare(t *testing.T, b api.Box) (explained bool) {
	t.Helper()
	want := canBy(b.Wheel, inside(b))
	can, e := takings.Can(b)
	if !slices.Equal(can, want) || e != api.OK {
		t.Errorf("Can of %v = %v, %d, not %v", b, can, e, want)
	}
	short, e := takings.Short(b)
	if short != max(0, b.Plays-want[len(want)-1]) || e != api.OK {
		t.Errorf("Short of %v = %d, %d; Can is %v", b, short, e, want)
	}
	skipped, e := takings.Skipped(b)
	if i, _ := slices.BinarySearch(want, b.Plays); i < len(want) && (skipped != want[i]-b.Plays || e != api.OK) || i == len(want) && (skipped != 0 || e != api.ErrNone) {
		t.Errorf("Skipped of %v = %d, %d; Can is %v", b, skipped, e, want)
	}
	purses := explainers(b)
	cents, e := takings.Missing(b)
	which, f := takings.Which(b)
	purse, acts, g := takings.Explain(b)
	if len(purses) == 0 {
		if e != api.ErrNone || f != api.ErrNone || g != api.ErrNone || cents != 0 || len(which)+len(purse)+len(acts) > 0 {
			t.Errorf("of %v, which nothing explains: Missing = %d, %d; Which = %v, %d; Explain = %v, %v, %d", b, cents, e, which, f, purse, acts, g)
		}
		return false
	}
	least, kinds := missingBy(b.Wheel, purses)
	if cents != least || e != api.OK || !slices.Equal(which, kinds) || f != api.OK {
		t.Errorf("of %v: Missing = %d, %d, not %d; Which = %v, %d, not %v", b, cents, e, least, which, f, kinds)
	}
	if g != api.OK || !explains(b, purse, acts) || worthOf(b.Wheel, purse) != least {
		t.Errorf("Explain of %v = %v, %v, %d", b, purse, acts, g)
	}
	return true
}

// P5.2, P5.4 to P5.8: what is said of a box is what all ways and all purses say that are tried.
func TestAllWays(t *testing.T) {
	all, explained := 0, 0
	for _, l := range []limits{few, dear} {
		for b := range drawn(150, l) {
			all++
			if compare(t, b) {
				explained++
			}
		}
	}
	if explained < all/2 || explained > all-30 {
		t.Errorf("%d of %d boxes can be explained", explained, all)
	}
}

// P5.2, P5.4 to P5.8: likewise for each number of plays on the register of small boxes.
func TestAllRegisters(t *testing.T) {
	for _, w := range []api.Wheel{wheelW(), wheel(5, []int{2, 3}, []int{1, 2}), wheel(12, []int{5}, []int{3, 5}), wheel(6, []int{1, 6}, []int{2, 9})} {
		for _, purse := range pursesOf(len(w.Coins), 3) {
			top := slices.Max(canBy(w, together(purse, slices.Repeat([]int{1}, len(purse)))))
			for plays := range top + 3 {
				compare(t, skips(box(w, plays, purse...), plays%3))
			}
		}
	}
}
