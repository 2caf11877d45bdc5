package wires_test

import (
	"math"
	"slices"
	"testing"

	"shellac/api"
	"shellac/wires"
)

// with returns a box with something changed.
func with(w api.Wire, change func(w *api.Wire)) api.Wire {
	w = copied(w)
	change(&w)
	return w
}

// outside are numbers that are not from low to high.
func outside(low, high int) []int {
	return []int{low - 1, high + 1, math.MinInt, math.MaxInt, -high - 2}
}

// truthful are valid boxes that have a truth.
func truthful() []api.Wire {
	return []api.Wire{
		boxX(), faults(boxX(), api.MaxFaults), box(1, 1, 0), box(1, 1, api.MaxFaults), box(5, 1, 1), box(1, 5, 1),
		box(api.MaxButtons, api.MaxButtons, api.MaxFaults),
		{Letters: 1, Numbers: 1, Presses: []api.WirePress{}},
		box(1, 1, 1, press(0, 0, 0)), box(1, 1, 1, press(0, 0, -1)),
		box(5, 5, 0, press(4, 4, 24)), box(5, 5, 2, press(0, 0, 24)), box(2, 3, 0, press(1, 2, 5)),
		box(5, 5, 3, slices.Repeat([]api.WirePress{press(4, 0, 20)}, api.MaxTried)...),
	}
}

// withoutTruth are valid boxes that have none.
func withoutTruth() []api.Wire {
	return []api.Wire{
		faults(boxX(), 1), faults(boxX(), 0),
		box(1, 1, 0, press(0, 0, -1)), box(2, 2, 1, press(0, 0, 3)),
		box(2, 2, 3, press(0, 0, 0), press(0, 0, 1)), box(2, 2, 3, press(0, 0, 0), press(0, 0, -1)),
		box(5, 5, 3, press(0, 0, 6), press(2, 2, 18)),
		box(5, 5, 3, press(0, 0, -1), press(1, 1, -1), press(2, 2, -1), press(3, 3, -1)),
	}
}

func invalidBoxes() []api.Wire {
	l := []api.Wire{
		{}, box(0, 3, 1), box(3, 0, 1),
		box(2, 2, 1, slices.Repeat([]api.WirePress{press(0, 0, 0)}, api.MaxTried+1)...),
		box(2, 2, 1, make([]api.WirePress, 1000)...),
		box(2, 3, 1, press(2, 0, 0)), box(2, 3, 1, press(0, 3, 0)), box(2, 3, 1, press(0, 0, 6)), box(3, 2, 1, press(0, 2, 0)), box(1, 1, 1, press(0, 0, 1)),
		box(math.MaxInt, math.MaxInt, 0), box(math.MinInt, math.MinInt, 0, press(-1, -1, 0)), box(-2, -3, 1, press(0, 0, 1)),
	}
	for _, n := range outside(1, api.MaxButtons) {
		l = append(l, with(boxX(), func(w *api.Wire) { w.Letters = n }), with(boxX(), func(w *api.Wire) { w.Numbers = n }), box(n, 1, 1), box(1, n, 1))
	}
	for _, n := range outside(0, api.MaxFaults) {
		l = append(l, faults(boxX(), n), box(1, 1, n))
	}
	for i := range boxX().Presses {
		for _, n := range outside(0, 1) {
			l = append(l, with(boxX(), func(w *api.Wire) { w.Presses[i].Letter = n }))
		}
		for _, n := range outside(0, 2) {
			l = append(l, with(boxX(), func(w *api.Wire) { w.Presses[i].Number = n }))
		}
		for _, n := range outside(-1, 5) {
			l = append(l, with(boxX(), func(w *api.Wire) { w.Presses[i].Got = n }))
		}
	}
	return l
}

// goodSets are sets of faults of a box with 2 letters and 3 numbers.
func goodSets() [][]api.WireFault {
	return [][]api.WireFault{
		nil, {}, {deadLetter(0)}, {deadLetter(1)}, {deadNumber(0)}, {deadNumber(2)}, {crossLetters(0, 1)}, {crossNumbers(0, 1)}, {crossNumbers(1, 2)},
		{deadLetter(0), deadLetter(1)}, {deadLetter(1), crossLetters(0, 1)}, {crossLetters(0, 1), crossNumbers(0, 1)},
		{deadLetter(0), deadLetter(1), deadNumber(0), deadNumber(1), deadNumber(2), crossLetters(0, 1), crossNumbers(0, 2)},
	}
}

// badSets are lists of faults that are no sets of a box with 2 letters and 3 numbers.
func badSets() [][]api.WireFault {
	l := [][]api.WireFault{
		// not of the box
		{deadLetter(2)}, {deadNumber(3)}, {deadLetter(-1)}, {deadNumber(-1)}, {crossLetters(0, 2)}, {crossLetters(1, 2)}, {crossNumbers(0, 3)}, {crossNumbers(-1, 1)}, {crossLetters(-1, 0)},
		{crossLetters(1, 0)}, {crossLetters(0, 0)}, {crossNumbers(2, 0)}, {crossNumbers(1, 1)}, {{}}, {fault(0, 0, 1)},
		{fault(api.DeadLetter, 0, 1)}, {fault(api.DeadLetter, 0, -1)}, {fault(api.DeadNumber, 1, 2)}, {fault(api.DeadNumber, 1, math.MinInt)},
		{deadLetter(0), deadLetter(2)}, {deadLetter(2), deadNumber(0)},
		// not in order
		{deadLetter(1), deadLetter(0)}, {deadNumber(2), deadNumber(1)}, {deadNumber(0), deadLetter(0)}, {deadNumber(0), deadLetter(1)},
		{crossLetters(0, 1), deadLetter(0)}, {crossNumbers(0, 1), crossLetters(0, 1)}, {crossNumbers(0, 1), deadNumber(2)}, {deadLetter(0), deadNumber(1), deadLetter(1)},
		// a fault twice
		{deadLetter(0), deadLetter(0)}, {deadNumber(1), deadNumber(1)}, {crossLetters(0, 1), crossLetters(0, 1)}, {deadLetter(0), deadNumber(1), deadLetter(0)},
		// a button in two crosses
		{crossNumbers(0, 1), crossNumbers(0, 2)}, {crossNumbers(0, 1), crossNumbers(1, 2)}, {crossNumbers(0, 2), crossNumbers(1, 2)},
		{deadLetter(0), deadNumber(0), crossLetters(0, 1), crossNumbers(0, 1), crossNumbers(0, 2)},
		slices.Repeat([]api.WireFault{deadLetter(0)}, 1000),
	}
	for _, kind := range []int{0, 5, -1, 10, math.MinInt, math.MaxInt} {
		l = append(l, set(fault(kind, 0, 0)), set(fault(kind, 0, 1)), set(deadLetter(0), fault(kind, 1, 0)))
	}
	for kind := range 5 {
		for _, n := range []int{math.MinInt, math.MaxInt, -5, 5} {
			l = append(l, set(fault(kind, n, 0)), set(fault(kind, 0, n)), set(fault(kind, n, n)))
		}
	}
	return l
}

// badPresses are letters and numbers that are not ones of a box.
func badPresses(w api.Wire) [][2]int {
	l := [][2]int{{w.Letters, w.Numbers}, {-1, -1}}
	for _, n := range outside(0, w.Letters-1) {
		l = append(l, [2]int{n, 0}, [2]int{n, w.Numbers - 1})
	}
	for _, n := range outside(0, w.Numbers-1) {
		l = append(l, [2]int{0, n}, [2]int{w.Letters - 1, n})
	}
	return l
}

// answer is the error of a function, and whether all its other results are zero values.
type answer struct {
	e    api.Errno
	zero bool
}

// ofBox asks the functions that are given a box alone.
func ofBox(w api.Wire) map[string]answer {
	fewest, e := wires.Fewest(w)
	many, f := wires.Many(w)
	sure, g := wires.Sure(w)
	maybe, h := wires.Maybe(w)
	first, j := wires.First(w)
	letter, number, k := wires.Next(w)
	return map[string]answer{
		"Fewest": {e, fewest == 0}, "Many": {f, many == 0}, "Sure": {g, len(sure) == 0},
		"Maybe": {h, len(maybe) == 0}, "First": {j, first == 0}, "Next": {k, letter == 0 && number == 0},
	}
}

// ofPress asks the functions that are given a press.
func ofPress(w api.Wire, letter, number int) map[string]answer {
	shows, e := wires.Shows(w, letter, number)
	left, f := wires.Left(w, letter, number)
	plays, g := wires.Plays(w, nil, letter, number)
	return map[string]answer{"Shows": {e, len(shows) == 0}, "Left": {f, left == 0}, "Plays": {g, plays == 0}}
}

// ofSet asks the functions that are given faults.
func ofSet(w api.Wire, l []api.WireFault, letter, number int) map[string]answer {
	plays, e := wires.Plays(w, l, letter, number)
	explains, f := wires.Explains(w, l)
	return map[string]answer{"Plays": {e, plays == 0}, "Explains": {f, !explains}}
}

// checkNone reports an answer of some functions that has not the error, or that says something nevertheless.
func checkNone(t *testing.T, w api.Wire, asked any, all map[string]answer, want api.Errno, names ...string) {
	t.Helper()
	for name, a := range all {
		if (len(names) == 0 || slices.Contains(names, name)) && a != (answer{want, true}) {
			t.Errorf("%s of %v, %v: %d, zero: %t; not %d", name, w, asked, a.e, a.zero, want)
		}
	}
}

// P11.1: which boxes are valid; those without a truth are.
func TestCheck(t *testing.T) {
	for i, w := range slices.Concat(truthful(), withoutTruth()) {
		if e := wires.Check(w); e != api.OK {
			t.Errorf("valid box %d, %v: Check = %d", i, w, e)
		}
	}
	for i, w := range invalidBoxes() {
		if e := wires.Check(w); e != api.ErrWire {
			t.Errorf("invalid box %d, %v: Check = %d", i, w, e)
		}
	}
	for letters := range api.MaxButtons {
		for numbers := range api.MaxButtons {
			for most := range api.MaxFaults + 1 {
				w := box(letters+1, numbers+1, most, press(letters, numbers, (letters+1)*(numbers+1)-1), press(0, 0, -1))
				if e := wires.Check(w); e != api.OK {
					t.Errorf("Check of %v = %d", w, e)
				}
			}
		}
	}
}

// P11.1, R1, R2: an invalid box comes before everything else that is not valid, and before ErrNone; nothing else is said of it.
func TestInvalidBoxComesFirst(t *testing.T) {
	for _, w := range invalidBoxes() {
		checkNone(t, w, nil, ofBox(w), api.ErrWire)
		for _, p := range append(badPresses(boxX()), [2]int{}, [2]int{1, 2}) {
			checkNone(t, w, p, ofPress(w, p[0], p[1]), api.ErrWire)
			for _, l := range slices.Concat(goodSets(), badSets()) {
				checkNone(t, w, l, ofSet(w, l, p[0], p[1]), api.ErrWire)
			}
		}
	}
}

// P11.2, P11.8, P11.9, R1, R2: a letter or a number that is none of the box, also if there is no truth.
func TestBadPresses(t *testing.T) {
	for _, w := range slices.Concat(truthful(), withoutTruth()) {
		for _, p := range badPresses(w) {
			checkNone(t, w, p, ofPress(w, p[0], p[1]), api.ErrArg)
		}
	}
}

// P11.2, P11.3, R8: lists of faults that are no sets of the box.
func TestBadSets(t *testing.T) {
	for _, w := range []api.Wire{boxX(), faults(boxX(), 0), box(2, 3, 3)} {
		for _, l := range badSets() {
			checkNone(t, w, l, ofSet(w, l, 1, 2), api.ErrArg)
		}
		for _, l := range goodSets() {
			for name, a := range ofSet(w, l, 1, 2) {
				if a.e != api.OK {
					t.Errorf("%s of %v, %v: %d", name, w, l, a.e)
				}
			}
			for _, p := range badPresses(w) {
				checkNone(t, w, p, ofSet(w, l, p[0], p[1]), api.ErrArg, "Plays")
			}
		}
	}
}

// P11.2, P11.3: each set of a box is one, and no other list of its faults that are, up to three.
func TestAllLists(t *testing.T) {
	w := box(3, 4, 0)
	sets := map[[3]api.WireFault]bool{}
	all := set(fault(0, 0, 0))
	for x := range wirings(3, 4, 3) {
		l := x.faults()
		if len(l) == 1 {
			all = append(all, l...)
		}
		sets[[3]api.WireFault(append(l, make([]api.WireFault, 3)...))] = true
	}
	for _, a := range all {
		for _, b := range all {
			for _, c := range all {
				l := slices.DeleteFunc(set(a, b, c), func(f api.WireFault) bool { return f.Kind == 0 })
				want := api.ErrArg
				if sets[[3]api.WireFault(append(slices.Clone(l), make([]api.WireFault, 3)...))] {
					want = api.OK
				}
				if _, e := wires.Explains(w, l); e != want {
					t.Errorf("Explains of %v, %v: %d, not %d", w, l, e, want)
				}
				if _, e := wires.Plays(w, l, 2, 3); e != want {
					t.Errorf("Plays of %v, %v: %d, not %d", w, l, e, want)
				}
			}
		}
	}
}

// P11.5 to P11.10, R2: ErrNone if there is no truth.
func TestNoTruth(t *testing.T) {
	for _, w := range withoutTruth() {
		checkNone(t, w, nil, ofBox(w), api.ErrNone, "Many", "Sure", "Maybe", "Next")
		for letter, number := range presses(w) {
			checkNone(t, w, nil, ofPress(w, letter, number), api.ErrNone, "Shows", "Left")
		}
		for name, e := range map[string]api.Errno{"Plays": ofSet(w, nil, 0, 0)["Plays"].e, "Explains": ofSet(w, nil, 0, 0)["Explains"].e, "First": ofBox(w)["First"].e} {
			if e != api.OK {
				t.Errorf("%s of %v: %d", name, w, e)
			}
		}
	}
}

// P11.7, R1, R7: ErrNone of First, and of nothing else, if there is a truth, but for Next.
func TestTruth(t *testing.T) {
	for _, w := range truthful() {
		all := ofBox(w)
		checkNone(t, w, nil, all, api.ErrNone, "First")
		for name, a := range all {
			if name != "First" && name != "Next" && a.e != api.OK {
				t.Errorf("%s of %v: %d", name, w, a.e)
			}
		}
		for letter, number := range presses(w) {
			for name, a := range ofPress(w, letter, number) {
				if a.e != api.OK {
					t.Errorf("%s of %v, %d %d: %d", name, w, letter, number, a.e)
				}
			}
		}
	}
}

// P11.4: ErrNone if no set of at most MaxFaults explains the presses: since none does, or since there are more faults.
func TestNoFewest(t *testing.T) {
	for _, most := range []int{0, api.MaxFaults} {
		for _, w := range []api.Wire{
			box(2, 2, most, press(0, 0, 0), press(0, 0, 1)),
			box(5, 5, most, press(0, 0, 6), press(2, 2, 18)),
			box(5, 5, most, press(0, 0, -1), press(1, 1, -1), press(2, 2, -1), press(3, 3, -1)),
			box(3, 1, most, press(0, 0, 1), press(1, 0, 2)),
		} {
			checkNone(t, w, nil, ofBox(w), api.ErrNone, "Fewest")
		}
	}
}

// P11.10: ErrNone if no press tells anything: there is one truth, or all play the same.
func TestNoNext(t *testing.T) {
	for _, w := range []api.Wire{
		box(1, 1, 0), box(5, 5, 0), box(1, 1, 3, press(0, 0, 0)), box(1, 1, 1, press(0, 0, -1)), // the letter is dead, or the number
		box(1, 1, 3, press(0, 0, -1)), box(5, 5, 0, press(3, 4, 19)), box(2, 2, 3, press(0, 0, 0), press(0, 1, 1), press(1, 0, 2)),
	} {
		checkNone(t, w, nil, ofBox(w), api.ErrNone, "Next")
		if n, e := wires.Many(w); n < 1 || e != api.OK {
			t.Errorf("Many of %v = %d, %d", w, n, e)
		}
	}
}
