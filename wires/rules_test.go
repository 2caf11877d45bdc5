package wires_test

import (
	"fmt"
	"math"
	"slices"
	"testing"

	"shellac/api"
	"shellac/wires"
)

// answers returns all that the functions say of arguments, as one text.
func answers(w api.Wire, l []api.WireFault, letter, number int) string {
	plays, e := wires.Plays(w, l, letter, number)
	explains, f := wires.Explains(w, l)
	text := fmt.Sprint(wires.Check(w), "; ", plays, e, explains, f)
	for _, of := range []func(api.Wire) (int, api.Errno){wires.Fewest, wires.Many, wires.First} {
		n, e := of(w)
		text += fmt.Sprint("; ", n, e)
	}
	for _, of := range []func(api.Wire) ([]api.WireFault, api.Errno){wires.Sure, wires.Maybe} {
		l, e := of(w)
		text += fmt.Sprint("; ", l, e)
	}
	shows, e := wires.Shows(w, letter, number)
	left, f := wires.Left(w, letter, number)
	a, b, g := wires.Next(w)
	return text + fmt.Sprint("; ", shows, e, left, f, a, b, g)
}

// P1: every function returns, whatever it is given.
func TestAnyArguments(t *testing.T) {
	wild := []api.Wire{
		box(math.MaxInt, math.MaxInt, math.MaxInt, press(math.MaxInt, math.MaxInt, math.MaxInt)),
		box(math.MinInt, math.MinInt, math.MinInt, press(math.MinInt, math.MinInt, math.MinInt)),
		box(5, 5, math.MaxInt), box(5, math.MaxInt, 3), box(math.MaxInt/2+1, 2, 3, press(0, 0, -1)),
	}
	edges := []int{0, 1, 4, 5, -1, math.MinInt, math.MaxInt}
	sets := slices.Concat(goodSets(), badSets())
	for i, w := range slices.Concat(truthful()[:5], withoutTruth()[:4], invalidBoxes(), wild) {
		for _, letter := range edges {
			for _, number := range edges {
				answers(w, sets[i%len(sets)], letter, number)
			}
		}
		for _, l := range sets {
			ofSet(w, l, 0, 0)
		}
	}
}

// P1: the greatest boxes are done in time.
func TestGreatestArguments(t *testing.T) {
	w := box(api.MaxButtons, api.MaxButtons, api.MaxFaults)
	for letter, number := range presses(w) {
		// of all 3026 sets, 951 leave both buttons alone, and in 723 one of them is dead
		if n, e := wires.Left(w, letter, number); n != 951 || e != api.OK {
			t.Errorf("Left of %v, %d %d = %d, %d", w, letter, number, n, e)
		}
	}
	if a, b, e := wires.Next(w); a != 0 || b != 0 || e != api.OK {
		t.Errorf("Next of %v = %d, %d, %d", w, a, b, e)
	}
	all := set()
	for button := range api.MaxButtons {
		all = append(all, deadLetter(button))
	}
	for button := range api.MaxButtons {
		all = append(all, deadNumber(button))
	}
	all = append(all, crossLetters(0, 1), crossLetters(2, 3), crossNumbers(0, 4), crossNumbers(1, 3))
	if n, e := wires.Plays(w, all, 4, 2); n != -1 || e != api.OK {
		t.Errorf("Plays of %v, %v = %d, %d", w, all, n, e)
	}
}

// R3: nil and empty lists are the same.
func TestNilAndEmpty(t *testing.T) {
	for _, x := range [][2]api.Wire{
		{box(1, 1, 1), {Letters: 1, Numbers: 1, Presses: []api.WirePress{}, Faults: 1}},
		{{Letters: 2, Numbers: 3}, {Letters: 2, Numbers: 3, Presses: []api.WirePress{}}},
		{{}, {Presses: []api.WirePress{}}},
	} {
		if a, b := answers(x[0], nil, 0, 0), answers(x[1], []api.WireFault{}, 0, 0); a != b {
			t.Errorf("nil: %s; empty: %s", a, b)
		}
	}
}

// roomy returns a copy of a list with memory behind it.
func roomy[T any](list []T) []T {
	return append(slices.Clone(list), make([]T, 2)...)[:len(list)]
}

// spoil writes over a list, and over the memory behind it.
func spoil[T any](list []T, with T) {
	list = list[:cap(list)]
	for i := range list {
		list[i] = with
	}
}

// R4: no argument is changed, nor the memory behind it, also if a result is changed.
func TestArgumentsStay(t *testing.T) {
	for w, draw := range drawn(60, some) {
		w.Presses = roomy(w.Presses)
		l := roomy(drawWiring(draw, w, 5).faults())
		whole := func() string { return fmt.Sprint(w, w.Presses[:cap(w.Presses)], l[:cap(l)]) }
		text := whole()
		answers(w, l, 0, 0)
		for _, of := range []func(api.Wire) ([]api.WireFault, api.Errno){wires.Sure, wires.Maybe} {
			l, _ := of(w)
			spoil(l, fault(9, 9, 9))
		}
		shows, _ := wires.Shows(w, 0, 0)
		spoil(shows, 99)
		if after := whole(); after != text {
			t.Errorf("changed from %s to %s", text, after)
		}
	}
}

// R4: a result is new memory each time.
func TestResultsAreNew(t *testing.T) {
	for range 2 {
		sure, _ := wires.Sure(boxX())
		maybe, _ := wires.Maybe(boxX())
		shows, _ := wires.Shows(boxX(), 0, 1)
		if !slices.Equal(sure, set(crossLetters(0, 1))) || !slices.Equal(maybe, set(deadLetter(1), deadNumber(1), crossLetters(0, 1))) || !slices.Equal(shows, []int{-1, 4}) {
			t.Errorf("Sure = %v, Maybe = %v, Shows = %v", sure, maybe, shows)
		}
		spoil(sure, fault(9, 9, 9))
		spoil(maybe, fault(9, 9, 9))
		spoil(shows, 99)
	}
}

// No state is kept: what was asked before changes no answer.
func TestNoState(t *testing.T) {
	ask := func(w api.Wire) string { return answers(w, set(crossLetters(0, 1)), 0, 1) }
	other := box(3, 2, 3, press(2, 1, 4))
	a, b := ask(boxX()), ask(other)
	if a == b {
		t.Errorf("two boxes answer the same: %s", a)
	}
	if again := ask(boxX()); again != a {
		t.Errorf("first %s, then %s", a, again)
	}
	if again := ask(other); again != b {
		t.Errorf("first %s, then %s", b, again)
	}
}
