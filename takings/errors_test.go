package takings_test

import (
	"math"
	"slices"
	"testing"

	"shellac/api"
	"shellac/takings"
)

func validBoxes() []api.Box {
	one, four := wheel(5, []int{2}, []int{3}), wheel(12, []int{1, 12}, []int{1, 2, 3, 100})
	return []api.Box{
		boxX(), widest(),
		box(wheel(1, nil, nil), 0),
		{Wheel: api.Wheel{Round: 1, Notches: []int{}, Coins: []int{}}, Found: []int{}, Marked: []int{}, Slugs: []int{}},
		box(one, 0, 0),
		box(one, 0, api.MaxPut),
		slugs(box(one, 0, 0), api.MaxPut),
		slugs(box(one, 0, 5), api.MaxPut-5),
		with(box(one, 0, api.MaxPut), func(b *api.Box) { b.Marked[0] = api.MaxPut }),
		box(four, 0, 3, 3, 3, 3),
		slugs(box(four, 0, 1, 0, 2, 0), 4, 0, 0, 5),
		box(four, 0, 0, 0, 0, api.MaxPut),
		shows(boxX(), 0), shows(boxX(), api.MaxRegister),
		skips(boxX(), api.MaxSkips), skips(shows(boxX(), api.MaxRegister), api.MaxSkips),
	}
}

func invalidBoxes() []api.Box {
	lists := []func(b *api.Box) *[]int{
		func(b *api.Box) *[]int { return &b.Found },
		func(b *api.Box) *[]int { return &b.Marked },
		func(b *api.Box) *[]int { return &b.Slugs },
	}
	l := []api.Box{
		{},
		with(boxX(), func(b *api.Box) { b.Wheel.Round = 0 }),
		with(boxX(), func(b *api.Box) { b.Wheel.Notches[1] = 10 }),
		with(boxX(), func(b *api.Box) { b.Wheel.Coins[2] = api.MaxCoin + 1 }),
		with(boxX(), func(b *api.Box) { b.Wheel.Coins = b.Wheel.Coins[:2] }),
		with(boxX(), func(b *api.Box) { b.Wheel.Coins = append(b.Wheel.Coins, 30) }),
		with(boxX(), func(b *api.Box) { b.Marked[0] = 1 }),
		with(boxX(), func(b *api.Box) { b.Marked[2] = 2 }),
		with(boxX(), func(b *api.Box) { b.Marked[2], b.Slugs[2] = 2, 2 }),
		with(boxX(), func(b *api.Box) { b.Found[0] = api.MaxPut - 2 }),
		with(boxX(), func(b *api.Box) { b.Slugs[0] = api.MaxPut - 2 }),
		with(boxX(), func(b *api.Box) { b.Slugs = []int{4, 4, 4} }),
		with(widest(), func(b *api.Box) { b.Found[0]++ }),
		with(widest(), func(b *api.Box) { b.Slugs[3]++ }),
		slugs(box(wheelW(), 0, api.MaxPut, 0, 0), api.MaxPut, 0, 0),
		{Wheel: wheelW(), Found: make([]int, 1000), Marked: make([]int, 1000), Slugs: make([]int, 1000)},
	}
	for _, of := range lists {
		l = append(l,
			with(boxX(), func(b *api.Box) { *of(b) = nil }),
			with(boxX(), func(b *api.Box) { *of(b) = (*of(b))[:2] }),
			with(boxX(), func(b *api.Box) { *of(b) = append(*of(b), 0) }))
		for _, n := range []int{-1, math.MinInt, api.MaxPut + 1, math.MaxInt} {
			l = append(l,
				with(boxX(), func(b *api.Box) { (*of(b))[0] = n }),
				with(boxX(), func(b *api.Box) { (*of(b))[2] = n }))
		}
	}
	// together just as many as there can be, but none of them can be so
	l = append(l, slugs(box(wheelW(), 0, 13, 0, 0), -1, 0, 0), slugs(box(wheelW(), 0, math.MaxInt, 0, 0), math.MaxInt, 2, 0))
	for _, n := range []int{-1, math.MinInt, math.MaxInt} {
		l = append(l, shows(boxX(), n), skips(boxX(), n))
	}
	return append(l, shows(boxX(), api.MaxRegister+1), skips(boxX(), api.MaxSkips+1))
}

// answer is the error of a function, and whether all its other results are zero values.
type answer struct {
	e    api.Errno
	zero bool
}

// answersOf asks all functions but Check.
func answersOf(b api.Box) map[string]answer {
	all := map[string]answer{}
	for name, of := range map[string]func(api.Box) (int, api.Errno){"Missing": takings.Missing, "Skipped": takings.Skipped, "Short": takings.Short} {
		n, e := of(b)
		all[name] = answer{e, n == 0}
	}
	for name, of := range map[string]func(api.Box) ([]int, api.Errno){"Can": takings.Can, "Which": takings.Which} {
		l, e := of(b)
		all[name] = answer{e, len(l) == 0}
	}
	purse, acts, e := takings.Explain(b)
	all["Explain"] = answer{e, len(purse)+len(acts) == 0}
	cash, house, worth, e := takings.Cash(b)
	all["Cash"] = answer{e, cash == 0 && house == 0 && worth == 0}
	cash, missing, bad, e := takings.Sum([]api.Box{b})
	all["Sum"] = answer{e, cash == 0 && missing == 0 && bad == 0}
	return all
}

// P5.1: which boxes are valid.
func TestCheck(t *testing.T) {
	for i, b := range validBoxes() {
		if e := takings.Check(b); e != api.OK {
			t.Errorf("valid box %d: Check = %d", i, e)
		}
	}
	for i, b := range invalidBoxes() {
		if e := takings.Check(b); e != api.ErrBox {
			t.Errorf("invalid box %d: Check = %d", i, e)
		}
	}
	for b := range drawn(300, many) {
		if e := takings.Check(b); e != api.OK {
			t.Errorf("Check of %v = %d", b, e)
		}
	}
}

// P5.1, R2: nothing is said of an invalid box but ErrBox.
func TestInvalidBox(t *testing.T) {
	for i, b := range invalidBoxes() {
		for name, a := range answersOf(b) {
			if a.e != api.ErrBox || !a.zero {
				t.Errorf("invalid box %d: %s: %d, zero: %t", i, name, a.e, a.zero)
			}
		}
	}
}

// P5.1: all is said of a valid box, or ErrNone where the chapter names it.
func TestValidBox(t *testing.T) {
	for i, b := range validBoxes() {
		for name, a := range answersOf(b) {
			optional := slices.Contains([]string{"Missing", "Which", "Explain", "Skipped"}, name)
			if a.e != api.OK && (!optional || a.e != api.ErrNone || !a.zero) {
				t.Errorf("valid box %d: %s: %d, zero: %t", i, name, a.e, a.zero)
			}
		}
	}
}

// P5.4 to P5.7, R2: ErrNone if there is no explanation, or no number of plays; all else has a result nevertheless.
func TestNoExplanation(t *testing.T) {
	for i, x := range []struct {
		b    api.Box
		none []string
	}{
		{shows(boxX(), 2), []string{"Missing", "Which", "Explain"}},
		{shows(boxX(), 6), []string{"Skipped"}},
		{shows(boxX(), 100), []string{"Missing", "Which", "Explain", "Skipped"}},
		{shows(widest(), api.MaxRegister), []string{"Missing", "Which", "Explain", "Skipped"}},
		{box(wheel(1, nil, nil), 1), []string{"Missing", "Which", "Explain", "Skipped"}},
		{box(wheel(5, nil, []int{7}), 1, 3), []string{"Missing", "Which", "Explain", "Skipped"}},
		{box(wheel(1, []int{1}, []int{2}), 3, 2), []string{"Missing", "Which", "Explain"}},
		{box(wheel(1, []int{1}, []int{2}), 10, 2), []string{"Missing", "Which", "Explain", "Skipped"}},
	} {
		for name, a := range answersOf(x.b) {
			want := api.OK
			if slices.Contains(x.none, name) {
				want = api.ErrNone
			}
			if a.e != want || want != api.OK && !a.zero {
				t.Errorf("%d: %s: %d, zero: %t", i, name, a.e, a.zero)
			}
		}
	}
}

// P5.9, R1, R2: too many boxes come before an invalid one, and this before all else; one that cannot be explained is no error.
func TestSumErrors(t *testing.T) {
	good, bad := boxX(), skips(boxX(), -1)
	for i, x := range []struct {
		l    []api.Box
		want api.Errno
	}{
		{nil, api.OK},
		{slices.Repeat([]api.Box{good}, api.MaxBoxes), api.OK},
		{slices.Repeat([]api.Box{shows(good, 2)}, api.MaxBoxes), api.OK},
		{slices.Repeat([]api.Box{good}, api.MaxBoxes+1), api.ErrMany},
		{slices.Repeat([]api.Box{bad}, api.MaxBoxes+1), api.ErrMany},
		{make([]api.Box, 1000), api.ErrMany},
		{[]api.Box{bad}, api.ErrBox},
		{[]api.Box{bad, good, good, good, good}, api.ErrBox},
		{[]api.Box{good, good, good, good, bad}, api.ErrBox},
		{[]api.Box{shows(good, 2), bad}, api.ErrBox},
		{make([]api.Box, api.MaxBoxes), api.ErrBox},
	} {
		cash, missing, n, e := takings.Sum(x.l)
		if e != x.want || e != api.OK && (cash != 0 || missing != 0 || n != 0) {
			t.Errorf("%d: Sum = %d, %d, %d, %d", i, cash, missing, n, e)
		}
	}
}
