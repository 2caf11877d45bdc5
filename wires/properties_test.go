package wires_test

import (
	"maps"
	"math/rand/v2"
	"slices"
	"testing"

	"shellac/api"
	"shellac/wires"
)

// said is all that is said of a box.
type said struct {
	fewest, first int // -1: ErrNone
	many          int // 0: there is no truth; then nothing else is said
	sure, maybe   []api.WireFault
	shows         map[[2]int][]int
	left          map[[2]int]int
	next          [2]int // -1 -1: ErrNone
}

// numberOr returns a number, or -1 with ErrNone.
func numberOr(t *testing.T, n int, e api.Errno) int {
	t.Helper()
	switch e {
	case api.OK:
		return n
	case api.ErrNone:
		return -1
	}
	t.Fatalf("error %d", e)
	return 0
}

// say asks for all of it.
func say(t *testing.T, w api.Wire) said {
	t.Helper()
	s := said{shows: map[[2]int][]int{}, left: map[[2]int]int{}}
	n, e := wires.Fewest(w)
	s.fewest = numberOr(t, n, e)
	n, e = wires.First(w)
	s.first = numberOr(t, n, e)
	n, e = wires.Many(w)
	if numberOr(t, n, e) < 0 {
		return s
	}
	s.many = n
	s.sure, e = wires.Sure(w)
	errors := []api.Errno{e}
	s.maybe, e = wires.Maybe(w)
	errors = append(errors, e)
	for letter, number := range presses(w) {
		key := [2]int{letter, number}
		s.shows[key], e = wires.Shows(w, letter, number)
		errors = append(errors, e)
		s.left[key], e = wires.Left(w, letter, number)
		errors = append(errors, e)
	}
	if slices.Max(errors) != api.OK {
		t.Errorf("%v has a truth, but errors: %v", w, errors)
	}
	s.next[0], s.next[1], e = wires.Next(w)
	if numberOr(t, 0, e) < 0 {
		s.next = [2]int{-1, -1}
	}
	return s
}

// isPart returns whether all of a list are in another one.
func isPart[T comparable](a, b []T) bool {
	return !slices.ContainsFunc(a, func(x T) bool { return !slices.Contains(b, x) })
}

// P11.11 (each truth): what a press plays in it is in Shows; it has all faults of Sure, only ones of Maybe, and at least Fewest of them.
func TestEachTruth(t *testing.T) {
	checked := 0
	eachDrawn(80, func(w api.Wire, _ *rand.Rand) {
		s, left := say(t, w), 200
		for x := range wirings(w.Letters, w.Numbers, w.Faults) {
			if !x.explains(w.Presses) {
				continue
			}
			if left--; left < 0 {
				return
			}
			checked++
			truth := x.faults()
			if yes, e := wires.Explains(w, truth); !yes || e != api.OK {
				t.Errorf("%v is a truth of %v, but Explains = %t, %d", truth, w, yes, e)
			}
			if !isPart(s.sure, truth) || !isPart(truth, s.maybe) || len(truth) < s.fewest || s.fewest < 0 {
				t.Errorf("%v is a truth of %v, but Sure = %v, Maybe = %v, Fewest = %d", truth, w, s.sure, s.maybe, s.fewest)
			}
			for key, shows := range s.shows {
				if n, e := wires.Plays(w, truth, key[0], key[1]); !slices.Contains(shows, n) || e != api.OK {
					t.Errorf("%v is a truth of %v: %v plays %d, %d, but Shows = %v", truth, w, key, n, e, shows)
				}
			}
		}
	})
	if checked < 2000 {
		t.Errorf("only %d truths", checked)
	}
}

// P11.12 (one more press): there are at most as many truths as Left says; over all that it can play they are together as many as before.
func TestOneMorePress(t *testing.T) {
	less := 0
	eachDrawn(30, func(w api.Wire, _ *rand.Rand) {
		if len(w.Presses) == api.MaxTried {
			return
		}
		s := say(t, w)
		for key, left := range s.left {
			most, all := 0, 0
			for got := -1; got < w.Letters*w.Numbers; got++ {
				n, e := wires.Many(pressed(w, press(key[0], key[1], got)))
				if found := numberOr(t, n, e) > 0; found != slices.Contains(s.shows[key], got) {
					t.Errorf("Shows of %v, %v = %v, but if it plays %d there is a truth: %t", w, key, s.shows[key], got, found)
				}
				most = max(most, n)
				all += n
			}
			if most != left || all != s.many {
				t.Errorf("Left of %v, %v = %d, but it leaves %d; Many = %d, but together there are %d", w, key, left, most, s.many, all)
			}
			if most < all {
				less++
			}
		}
	})
	if less < 150 {
		t.Errorf("only %d presses tell something", less)
	}
}

// P11.13 (more faults): there are not fewer truths, no fault is gone from Maybe, and none comes to Sure.
func TestMoreFaults(t *testing.T) {
	more := 0
	eachDrawn(60, func(w api.Wire, _ *rand.Rand) {
		before := say(t, faults(w, 0))
		for most := 1; most <= api.MaxFaults; most++ {
			s := say(t, faults(w, most))
			if s.many < before.many || before.many > 0 && (!isPart(before.maybe, s.maybe) || !isPart(s.sure, before.sure)) || s.fewest != before.fewest {
				t.Errorf("of %v with %d: %v; with one fault less: %v", w, most, s, before)
			}
			if before.many > 0 && s.many > before.many && len(s.sure) < len(before.sure) {
				more++
			}
			before = s
		}
	})
	if more < 5 {
		t.Errorf("only %d times a fault is gone from Sure", more)
	}
}

// turned returns a box whose letters are the numbers of another one, and the other way round.
func turned(w api.Wire) api.Wire {
	other := box(w.Numbers, w.Letters, w.Faults)
	for _, p := range w.Presses {
		other.Presses = append(other.Presses, press(p.Number, p.Letter, turnedSelection(w, p.Got)))
	}
	return other
}

func turnedSelection(w api.Wire, selection int) int {
	if selection < 0 {
		return selection
	}
	return selection%w.Numbers*w.Letters + selection/w.Numbers
}

// turnedSet returns faults with letters and numbers exchanged, in order.
func turnedSet(l []api.WireFault) []api.WireFault {
	kinds := map[int]int{api.DeadLetter: api.DeadNumber, api.DeadNumber: api.DeadLetter, api.CrossLetters: api.CrossNumbers, api.CrossNumbers: api.CrossLetters}
	l = slices.Clone(l)
	for i := range l {
		l[i].Kind = kinds[l[i].Kind]
	}
	slices.SortFunc(l, byKind)
	return l
}

// P11.14 (letters and numbers): if they are exchanged, everything is the same, exchanged.
func TestLettersAndNumbers(t *testing.T) {
	eachDrawn(60, func(w api.Wire, draw *rand.Rand) {
		other := turned(w)
		a, b := say(t, w), say(t, other)
		if a.fewest != b.fewest || a.first != b.first || a.many != b.many || !slices.Equal(turnedSet(a.sure), b.sure) || !slices.Equal(turnedSet(a.maybe), b.maybe) {
			t.Errorf("of %v: %v; of %v: %v", w, a, other, b)
		}
		for key, shows := range a.shows {
			back := [2]int{key[1], key[0]}
			for i, n := range shows {
				shows[i] = turnedSelection(w, n)
			}
			slices.Sort(shows)
			if !slices.Equal(shows, b.shows[back]) || a.left[key] != b.left[back] {
				t.Errorf("of %v, %v: %v, %d; of %v: %v, %d", w, key, shows, a.left[key], other, b.shows[back], b.left[back])
			}
		}
		// of several presses another one can be the first if they are exchanged
		if a.next[0] < 0 != (b.next[0] < 0) || a.next[0] >= 0 && a.left[a.next] != b.left[b.next] {
			t.Errorf("Next of %v = %v, of %v %v", w, a.next, other, b.next)
		}
		checkTurned(t, w, drawWiring(draw, w, 6).faults())
	})
}

// checkTurned compares what a set of faults does with what it does with letters and numbers exchanged.
func checkTurned(t *testing.T, w api.Wire, l []api.WireFault) {
	t.Helper()
	other, back := turned(w), turnedSet(l)
	a, e := wires.Explains(w, l)
	b, f := wires.Explains(other, back)
	if a != b || e != api.OK || f != api.OK {
		t.Errorf("Explains of %v, %v = %t, %d; of %v, %v %t, %d", w, l, a, e, other, back, b, f)
	}
	for letter, number := range presses(w) {
		a, e := wires.Plays(w, l, letter, number)
		b, f := wires.Plays(other, back, number, letter)
		if turnedSelection(w, a) != b || e != api.OK || f != api.OK {
			t.Errorf("Plays of %v, %v, %d %d = %d, %d; exchanged %d, %d", w, l, letter, number, a, e, b, f)
		}
	}
}

// P11.15 (first): there is a First just if there is no truth; the presses before it can be explained, with it they cannot.
func TestFirstOfPresses(t *testing.T) {
	firsts, late := 0, 0
	eachDrawn(200, func(w api.Wire, _ *rand.Rand) {
		s := say(t, w)
		if (s.first >= 0) != (s.many == 0) || (s.many > 0) != (s.fewest >= 0 && s.fewest <= w.Faults) {
			t.Errorf("First of %v = %d, but Many = %d, Fewest = %d", w, s.first, s.many, s.fewest)
		}
		if s.first < 0 {
			return
		}
		firsts++
		late += min(s.first, 1)
		before, upTo := copied(w), copied(w)
		before.Presses = before.Presses[:s.first]
		upTo.Presses = upTo.Presses[:s.first+1]
		if a, b := say(t, before), say(t, upTo); a.many == 0 || b.many > 0 || b.first != s.first {
			t.Errorf("First of %v = %d, but Many of those before it = %d, with it %d", w, s.first, a.many, b.many)
		}
	})
	if firsts < 100 || late < 50 {
		t.Errorf("only %d have a First, of %d it is not 0", firsts, late)
	}
}

// P11.16 (no faults): if each press plays its own selection, Fewest is 0, and no fault is sure.
func TestNoFaults(t *testing.T) {
	eachDrawn(60, func(w api.Wire, _ *rand.Rand) {
		w = copied(w)
		for i, p := range w.Presses {
			w.Presses[i].Got = p.Letter*w.Numbers + p.Number
		}
		if s := say(t, w); s.fewest != 0 || len(s.sure) > 0 || s.many == 0 || s.first >= 0 {
			t.Errorf("of %v: %v", w, s)
		}
		if yes, e := wires.Explains(w, nil); !yes || e != api.OK {
			t.Errorf("no faults explain %v: %t, %d", w, yes, e)
		}
	})
}

// P11.4 to P11.10: but for First, the order of the presses changes nothing.
func TestAnyOrder(t *testing.T) {
	eachDrawn(40, func(w api.Wire, draw *rand.Rand) {
		other := copied(w)
		draw.Shuffle(len(w.Presses), func(a, b int) {
			other.Presses[a], other.Presses[b] = other.Presses[b], other.Presses[a]
		})
		a, b := say(t, w), say(t, other)
		if a.fewest != b.fewest || a.many != b.many || !slices.Equal(a.sure, b.sure) || !slices.Equal(a.maybe, b.maybe) ||
			!maps.Equal(a.left, b.left) || !maps.EqualFunc(a.shows, b.shows, slices.Equal) || a.next != b.next {
			t.Errorf("of %v: %v; of %v: %v", w, a, other, b)
		}
	})
}
