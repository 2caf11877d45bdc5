package wires_test

import (
	"slices"
	"testing"

	"shellac/api"
	"shellac/wires"
)

// P11.2: the chapter's examples, dead and crossed buttons together, and how selections are counted.
func TestPlays(t *testing.T) {
	wide := box(2, 5, 0)
	for i, x := range []struct {
		w              api.Wire
		l              []api.WireFault
		letter, number int
		want           int
	}{
		{boxX(), nil, 1, 2, 5}, {boxX(), set(crossLetters(0, 1)), 1, 2, 2}, {boxX(), set(deadNumber(2)), 1, 2, -1},
		{boxX(), nil, 0, 0, 0}, {boxX(), nil, 1, 0, 3}, {boxX(), nil, 0, 2, 2}, {wide, nil, 1, 0, 5}, {wide, nil, 1, 4, 9}, {box(5, 1, 0), nil, 4, 0, 4}, {box(5, 5, 0), nil, 4, 4, 24},
		{boxX(), set(crossLetters(0, 1)), 0, 2, 5}, {boxX(), set(crossNumbers(0, 2)), 1, 2, 3}, {boxX(), set(crossNumbers(0, 2)), 1, 0, 5}, {boxX(), set(crossNumbers(0, 2)), 1, 1, 4},
		{boxX(), set(crossLetters(0, 1), crossNumbers(0, 2)), 0, 0, 5}, {boxX(), set(crossLetters(0, 1), crossNumbers(0, 2)), 1, 1, 1},
		{boxX(), set(deadLetter(0)), 0, 1, -1}, {boxX(), set(deadLetter(0)), 1, 0, 3}, {boxX(), set(deadNumber(0)), 1, 0, -1}, {boxX(), set(deadNumber(0)), 0, 1, 1}, {boxX(), set(deadLetter(1)), 0, 1, 1},
		// what is dead is the button that is pressed, not the one that counts
		{boxX(), set(deadLetter(0), crossLetters(0, 1)), 0, 1, -1}, {boxX(), set(deadLetter(0), crossLetters(0, 1)), 1, 1, 1},
		{boxX(), set(deadNumber(1), crossNumbers(0, 1)), 1, 1, -1}, {boxX(), set(deadNumber(1), crossNumbers(0, 1)), 1, 0, 4},
		{boxX(), set(deadLetter(0), deadNumber(1), crossLetters(0, 1), crossNumbers(1, 2)), 1, 2, 1},
		{boxX(), set(deadLetter(0), deadLetter(1), deadNumber(0), deadNumber(1), deadNumber(2)), 1, 2, -1},
		{box(5, 5, 0), set(crossLetters(0, 3), crossLetters(1, 2), crossNumbers(0, 1), crossNumbers(2, 4)), 2, 4, 7},
		{box(5, 5, 0), set(crossLetters(0, 3), crossLetters(1, 2), crossNumbers(0, 1), crossNumbers(2, 4)), 3, 3, 3},
		{box(5, 5, 0), set(crossLetters(0, 3), crossLetters(1, 2), crossNumbers(0, 1), crossNumbers(2, 4)), 4, 1, 20},
		// the presses of the box do not matter
		{faults(boxX(), 0), set(crossLetters(0, 1)), 0, 0, 3}, {box(2, 2, 0, press(0, 0, 0), press(0, 0, 1)), nil, 0, 1, 1},
	} {
		if n, e := wires.Plays(x.w, x.l, x.letter, x.number); n != x.want || e != api.OK {
			t.Errorf("%d: Plays of %v, %v, %d %d = %d, %d, not %d", i, x.w, x.l, x.letter, x.number, n, e, x.want)
		}
	}
}

// P11.3: sets that explain the presses of the chapter's box, also with more faults than there can be, and ones that do not.
func TestExplains(t *testing.T) {
	for i, x := range []struct {
		w    api.Wire
		l    []api.WireFault
		want bool
	}{
		{boxX(), nil, false}, {boxX(), set(crossLetters(0, 1)), false}, {boxX(), set(deadLetter(1)), false},
		{boxX(), set(deadLetter(1), crossLetters(0, 1)), true}, {boxX(), set(deadNumber(1), crossLetters(0, 1)), true},
		{boxX(), set(deadLetter(0), crossLetters(0, 1)), false}, {boxX(), set(deadNumber(0), crossLetters(0, 1)), false},
		{boxX(), set(deadLetter(1), deadNumber(1), deadNumber(2), crossLetters(0, 1), crossNumbers(1, 2)), true},
		{faults(boxX(), 0), set(deadLetter(1), crossLetters(0, 1)), true},
		{box(2, 3, 0), nil, true}, {box(2, 3, 0), set(deadLetter(0), deadLetter(1), crossLetters(0, 1)), true},
		{box(2, 2, 0, press(0, 0, 0), press(1, 1, 3)), nil, true}, {box(2, 2, 0, press(0, 0, 0), press(1, 1, 2)), nil, false}, {box(2, 2, 0, press(0, 0, 0), press(1, 1, -1)), nil, false},
		{box(2, 2, 0, press(0, 0, 1), press(1, 1, 3)), nil, false}, {box(2, 2, 0, press(0, 0, 0), press(0, 0, 1)), nil, false},
		{box(1, 1, 0, press(0, 0, -1)), set(deadLetter(0), deadNumber(0)), true}, {box(1, 1, 0, press(0, 0, 0)), set(deadLetter(0), deadNumber(0)), false},
	} {
		if yes, e := wires.Explains(x.w, x.l); yes != x.want || e != api.OK {
			t.Errorf("%d: Explains of %v, %v = %t, %d", i, x.w, x.l, yes, e)
		}
	}
}

// P11.4: the chapter's example, the least of several, and Faults does not matter.
func TestFewest(t *testing.T) {
	for i, x := range []struct {
		w    api.Wire
		want int
	}{
		{boxX(), 2}, {box(5, 5, 0), 0}, {box(2, 2, 0, press(0, 0, 0), press(1, 1, 3)), 0},
		{box(1, 1, 0, press(0, 0, -1)), 1}, {box(2, 2, 0, press(0, 0, 2)), 1}, {box(2, 2, 0, press(0, 0, 1)), 1}, {box(2, 2, 0, press(0, 0, 3)), 2},
		{box(2, 3, 0, press(0, 0, -1), press(0, 1, -1), press(0, 2, -1)), 1}, {box(3, 2, 0, press(0, 1, -1), press(1, 1, -1), press(2, 1, -1)), 1},
		{box(2, 2, 0, press(0, 0, -1), press(1, 1, -1)), 2}, {box(3, 3, 0, press(0, 0, -1), press(1, 1, -1), press(2, 2, -1)), 3},
		{box(2, 2, 0, press(0, 0, 2), press(1, 0, -1)), 2}, {box(2, 2, 0, press(0, 0, 2), press(1, 0, 0)), 1},
		{box(5, 5, 0, press(0, 0, 6), press(4, 4, -1)), 3}, {box(5, 5, 0, press(0, 4, 9), press(2, 4, 19), press(4, 0, 20)), 2}, {box(5, 5, 0, press(0, 0, 6), press(2, 4, 19)), 3},
	} {
		for most := range api.MaxFaults + 1 {
			if n, e := wires.Fewest(faults(x.w, most)); n != x.want || e != api.OK {
				t.Errorf("%d: Fewest of %v with %d = %d, %d, not %d", i, x.w, most, n, e, x.want)
			}
		}
	}
}

// P11.5: the chapter's example, all sets of boxes without presses, and dead buttons that are crossed besides.
func TestMany(t *testing.T) {
	for i, x := range []struct {
		w    api.Wire
		want int
	}{
		{boxX(), 2}, {faults(boxX(), 3), 7},
		{box(1, 1, 0), 1}, {box(1, 1, 1), 3}, {box(1, 1, 2), 4}, {box(1, 1, 3), 4}, {box(2, 1, 1), 5}, {box(2, 1, 2), 11}, {box(2, 1, 3), 15},
		{box(5, 5, 0), 1}, {box(5, 5, 1), 31}, {box(5, 5, 2), 406}, {box(5, 5, 3), 3026},
		{box(1, 1, 2, press(0, 0, -1)), 3}, {box(1, 1, 3, press(0, 0, 0)), 1}, {box(2, 1, 2, press(0, 0, 1)), 2}, {box(2, 1, 3, press(0, 0, 1), press(1, 0, -1)), 1},
		{box(4, 1, 3, press(0, 0, 1), press(2, 0, 3)), 3}, {box(2, 2, 2, press(0, 0, 3)), 1}, {box(5, 5, 3, slices.Repeat([]api.WirePress{press(0, 0, 24)}, 8)...), 15},
	} {
		if n, e := wires.Many(x.w); n != x.want || e != api.OK {
			t.Errorf("%d: Many of %v = %d, %d, not %d", i, x.w, n, e, x.want)
		}
	}
}

// P11.6: the chapter's examples, faults of all kinds in order, and truths that have no fault in common.
func TestSureAndMaybe(t *testing.T) {
	for i, x := range []struct {
		w           api.Wire
		sure, maybe []api.WireFault
	}{
		{boxX(), set(crossLetters(0, 1)), set(deadLetter(1), deadNumber(1), crossLetters(0, 1))},
		{faults(boxX(), 3), set(crossLetters(0, 1)), set(deadLetter(1), deadNumber(1), deadNumber(2), crossLetters(0, 1), crossNumbers(1, 2))},
		{box(5, 5, 0), nil, nil}, {box(1, 1, 3), nil, set(deadLetter(0), deadNumber(0))}, {box(1, 1, 1, press(0, 0, -1)), nil, set(deadLetter(0), deadNumber(0))},
		{box(2, 3, 1), nil, set(deadLetter(0), deadLetter(1), deadNumber(0), deadNumber(1), deadNumber(2), crossLetters(0, 1), crossNumbers(0, 1), crossNumbers(0, 2), crossNumbers(1, 2))},
		{box(2, 2, 2, press(0, 0, 3)), set(crossLetters(0, 1), crossNumbers(0, 1)), set(crossLetters(0, 1), crossNumbers(0, 1))},
		{box(2, 2, 3, press(0, 0, 3)), set(crossLetters(0, 1), crossNumbers(0, 1)), set(deadLetter(1), deadNumber(1), crossLetters(0, 1), crossNumbers(0, 1))},
		{box(2, 2, 1, press(0, 0, 0), press(0, 1, -1)), set(deadNumber(1)), set(deadNumber(1))},
		{box(2, 2, 2, press(0, 0, 0), press(0, 1, -1)), set(deadNumber(1)), set(deadLetter(1), deadNumber(1))},
		{box(4, 1, 3, press(0, 0, 3)), set(crossLetters(0, 3)), set(deadLetter(1), deadLetter(2), deadLetter(3), crossLetters(0, 3), crossLetters(1, 2))},
	} {
		sure, e := wires.Sure(x.w)
		maybe, f := wires.Maybe(x.w)
		if !slices.Equal(sure, x.sure) || e != api.OK || !slices.Equal(maybe, x.maybe) || f != api.OK {
			t.Errorf("%d: of %v: Sure = %v, %d; Maybe = %v, %d", i, x.w, sure, e, maybe, f)
		}
	}
}

// P11.7: the chapter's examples, and presses that no number of faults explains.
func TestFirst(t *testing.T) {
	for i, x := range []struct {
		w    api.Wire
		want int // -1: there is none
	}{
		{boxX(), -1}, {faults(boxX(), 1), 1}, {faults(boxX(), 0), 0}, {faults(boxX(), 3), -1}, {box(5, 5, 0), -1},
		{box(2, 2, 0, press(0, 0, 0), press(1, 1, 3), press(1, 0, -1), press(0, 1, 1)), 2},
		{box(2, 2, 3, press(0, 0, 0), press(0, 0, 0), press(0, 0, 1)), 2}, {box(2, 2, 3, press(0, 0, 0), press(0, 0, 1), press(0, 0, 0)), 1},
		{box(3, 3, 2, press(0, 0, -1), press(1, 1, -1), press(2, 2, -1)), 2}, {box(3, 3, 1, press(0, 0, -1), press(1, 1, -1), press(2, 2, -1)), 1},
		// the first press is explained by another fault than both are
		{box(2, 2, 1, press(0, 0, -1), press(1, 0, -1)), -1}, {box(2, 2, 1, press(0, 0, -1), press(0, 1, -1)), -1}, {box(2, 2, 1, press(0, 0, -1), press(0, 1, -1), press(1, 0, -1)), 2},
		{box(5, 5, 0, append(slices.Repeat([]api.WirePress{press(0, 0, 0)}, 7), press(4, 4, 23))...), 7},
	} {
		n, e := wires.First(x.w)
		if x.want >= 0 && (n != x.want || e != api.OK) || x.want < 0 && (n != 0 || e != api.ErrNone) {
			t.Errorf("%d: First of %v = %d, %d, not %d", i, x.w, n, e, x.want)
		}
	}
}

// P11.8, P11.9: the chapter's examples, and what a press can play that only one truth says.
func TestShowsAndLeft(t *testing.T) {
	for i, x := range []struct {
		w              api.Wire
		letter, number int
		shows          []int
		left           int
	}{
		{boxX(), 0, 1, []int{-1, 4}, 1}, {boxX(), 1, 0, []int{-1, 0}, 1}, {boxX(), 1, 1, []int{-1}, 2}, {boxX(), 0, 0, []int{3}, 2},
		{box(1, 1, 0), 0, 0, []int{0}, 1}, {box(1, 1, 1), 0, 0, []int{-1, 0}, 2}, {box(1, 1, 2), 0, 0, []int{-1, 0}, 3}, {box(1, 1, 3, press(0, 0, -1)), 0, 0, []int{-1}, 3},
		{box(2, 2, 1), 0, 0, []int{-1, 0, 1, 2}, 3}, {box(2, 2, 1), 1, 0, []int{-1, 0, 2, 3}, 3}, {box(2, 2, 2), 0, 0, []int{-1, 0, 1, 2, 3}, 11},
		{box(5, 5, 0), 4, 3, []int{23}, 1}, {box(5, 5, 1), 1, 1, []int{-1, 1, 5, 6, 7, 8, 9, 11, 16, 21}, 21},
		{box(2, 2, 1, press(0, 0, 0)), 0, 1, []int{-1, 1}, 2}, {box(2, 2, 1, press(0, 0, 0)), 1, 1, []int{-1, 3}, 2},
	} {
		shows, e := wires.Shows(x.w, x.letter, x.number)
		left, f := wires.Left(x.w, x.letter, x.number)
		if !slices.Equal(shows, x.shows) || e != api.OK || left != x.left || f != api.OK {
			t.Errorf("%d: of %v, %d %d: Shows = %v, %d; Left = %d, %d", i, x.w, x.letter, x.number, shows, e, left, f)
		}
	}
}

// P11.10: the chapter's example, the first of equal ones by the letter, and then by the number.
func TestNext(t *testing.T) {
	for i, x := range []struct {
		w              api.Wire
		letter, number int
	}{
		{boxX(), 0, 1}, {box(2, 2, 1), 0, 0}, {box(2, 2, 1, press(0, 0, 0)), 0, 1}, {box(2, 2, 1, press(0, 0, 0), press(0, 1, 1)), 1, 0},
		{box(1, 3, 1, press(0, 0, 0)), 0, 1}, {box(3, 1, 1, press(0, 0, 0)), 1, 0}, {box(3, 3, 1, press(0, 0, 0), press(1, 1, 4)), 0, 2}, {box(3, 3, 1, press(0, 0, 0), press(2, 2, 8)), 0, 1},
		// earlier presses tell something, too, but less
		{box(2, 3, 1, press(0, 0, 0)), 1, 1}, {box(2, 2, 2, press(1, 1, 3)), 0, 1}, {box(2, 2, 2, press(0, 0, -1)), 1, 1},
	} {
		if letter, number, e := wires.Next(x.w); letter != x.letter || number != x.number || e != api.OK {
			t.Errorf("%d: Next of %v = %d, %d, %d, not %d %d", i, x.w, letter, number, e, x.letter, x.number)
		}
	}
}

// number reports an answer that is not the wanted one, -1: ErrNone.
func number(t *testing.T, name string, w api.Wire, got int, e api.Errno, want int) {
	t.Helper()
	if want < 0 && (got != 0 || e != api.ErrNone) || want >= 0 && (got != want || e != api.OK) {
		t.Errorf("%s of %v = %d, %d, not %d", name, w, got, e, want)
	}
}

// checkTruths compares all that is said of a box that has truths with what is seen in them.
func checkTruths(t *testing.T, w api.Wire, s seen) {
	t.Helper()
	many, e := wires.Many(w)
	number(t, "Many", w, many, e, len(s.truths))
	sure, e := wires.Sure(w)
	maybe, f := wires.Maybe(w)
	if !slices.Equal(sure, s.sure) || e != api.OK || !slices.Equal(maybe, s.maybe) || f != api.OK {
		t.Errorf("of %v: Sure = %v, %d, not %v; Maybe = %v, %d, not %v", w, sure, e, s.sure, maybe, f, s.maybe)
	}
	for letter, n := range presses(w) {
		key := [2]int{letter, n}
		left, e := wires.Left(w, letter, n)
		number(t, "Left", w, left, e, s.left[key])
		if shows, e := wires.Shows(w, letter, n); !slices.Equal(shows, s.shows[key]) || e != api.OK {
			t.Errorf("Shows of %v, %v = %v, %d, not %v", w, key, shows, e, s.shows[key])
		}
	}
	letter, n, e := wires.Next(w)
	if [2]int{letter, n} != s.next || (e == api.ErrNone) != s.none || e != api.OK && e != api.ErrNone {
		t.Errorf("Next of %v = %d, %d, %d, not %v; none: %t", w, letter, n, e, s.next, s.none)
	}
}

// P11.4 to P11.10: all functions say what is seen in all truths, each of them gone through.
func TestAllTruths(t *testing.T) {
	truths, late, asked := 0, 0, 0
	check := func(w api.Wire) {
		fewest, e := wires.Fewest(w)
		by := fewestBy(w, w.Presses)
		if by > api.MaxFaults {
			by = -1
		}
		number(t, "Fewest", w, fewest, e, by)
		first, e := wires.First(w)
		number(t, "First", w, first, e, firstBy(w))
		s := look(w)
		if len(s.truths) == 0 {
			late += min(first, 1)
			checkNone(t, w, nil, ofBox(w), api.ErrNone, "Many", "Sure", "Maybe", "Next")
			return
		}
		truths++
		asked += min(s.next[0]+s.next[1], 1)
		checkTruths(t, w, s)
	}
	for w := range drawn(400, few) {
		check(w)
	}
	for w := range drawn(150, some) {
		check(w)
	}
	for w := range drawn(25, full) {
		check(w)
	}
	if truths < 300 || late < 40 || asked < 60 {
		t.Errorf("only %d have truths, %d have none with the first press explained, and %d are asked for a later press", truths, late, asked)
	}
}

// P11.2, P11.3: each press plays what it does in a wiring, which explains just the presses that do so.
func TestAllWirings(t *testing.T) {
	yes, no := 0, 0
	for w, draw := range drawn(600, full) {
		x := drawWiring(draw, w, draw.IntN(12))
		l := x.faults()
		for letter, number := range presses(w) {
			if n, e := wires.Plays(w, l, letter, number); n != x.plays(letter, number) || e != api.OK {
				t.Errorf("Plays of %v, %v, %d %d = %d, %d, not %d", w, l, letter, number, n, e, x.plays(letter, number))
			}
		}
		explains, e := wires.Explains(w, l)
		if explains != x.explains(w.Presses) || e != api.OK {
			t.Errorf("Explains of %v, %v = %t, %d", w, l, explains, e)
		}
		if explains {
			yes++
		} else {
			no++
		}
	}
	if yes < 100 || no < 100 {
		t.Errorf("%d wirings explain all presses, %d do not", yes, no)
	}
}
