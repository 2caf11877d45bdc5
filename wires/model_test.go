package wires_test

import (
	"iter"
	"maps"
	"math/rand/v2"
	"slices"

	"shellac/api"
)

// This file is a second look at boxes: they are wired button by button, in all ways; the tests compare the package with it.

func press(letter, number, got int) api.WirePress {
	return api.WirePress{Letter: letter, Number: number, Got: got}
}

func box(letters, numbers, faults int, presses ...api.WirePress) api.Wire {
	return api.Wire{Letters: letters, Numbers: numbers, Presses: presses, Faults: faults}
}

func fault(kind, a, b int) api.WireFault { return api.WireFault{Kind: kind, A: a, B: b} }

func deadLetter(a int) api.WireFault      { return fault(api.DeadLetter, a, 0) }
func deadNumber(a int) api.WireFault      { return fault(api.DeadNumber, a, 0) }
func crossLetters(a, b int) api.WireFault { return fault(api.CrossLetters, a, b) }
func crossNumbers(a, b int) api.WireFault { return fault(api.CrossNumbers, a, b) }

func set(l ...api.WireFault) []api.WireFault { return l }

// boxX is the box of the chapter's examples.
func boxX() api.Wire { return box(2, 3, 2, press(0, 0, 3), press(1, 1, -1)) }

// faults returns a box that can have so many faults.
func faults(w api.Wire, most int) api.Wire {
	w.Faults = most
	return w
}

// pressed returns a box with more presses.
func pressed(w api.Wire, more ...api.WirePress) api.Wire {
	w.Presses = slices.Concat(w.Presses, more)
	return w
}

// copied returns a box that shares no memory with another one.
func copied(w api.Wire) api.Wire {
	w.Presses = slices.Clone(w.Presses)
	return w
}

// bank is how the letters of a box are wired, or its numbers: which button counts instead of each, which ones are dead, and how many faults these are.
type bank struct {
	counts []int
	dead   []bool
	faults int
}

// wiring is a box laid out.
type wiring struct{ letters, numbers bank }

// straight returns a bank without faults.
func straight(buttons int) bank {
	b := bank{dead: make([]bool, buttons)}
	for button := range buttons {
		b.counts = append(b.counts, button)
	}
	return b
}

func (b bank) copied() bank {
	return bank{slices.Clone(b.counts), slices.Clone(b.dead), b.faults}
}

// banks returns all banks of so many buttons.
func banks(buttons int) []bank {
	all := []bank{straight(buttons)}
	for button := range buttons {
		for _, b := range slices.Clone(all) {
			b = b.copied()
			b.dead[button] = true
			b.faults++
			all = append(all, b)
		}
	}
	for button := range buttons {
		for _, b := range slices.Clone(all) {
			for other := range button {
				if b.counts[button] == button && b.counts[other] == other {
					b := b.copied()
					b.cross(button, other)
					all = append(all, b)
				}
			}
		}
	}
	return all
}

func (b *bank) cross(button, other int) {
	b.counts[button], b.counts[other] = other, button
	b.faults++
}

// list returns the faults of a bank, of the kinds for dead and for crossed buttons.
func (b bank) list(deadKind, crossKind int) (dead, crossed []api.WireFault) {
	for button, counts := range b.counts {
		if b.dead[button] {
			dead = append(dead, fault(deadKind, button, 0))
		}
		if counts > button {
			crossed = append(crossed, fault(crossKind, button, counts))
		}
	}
	return dead, crossed
}

// faults returns the faults of a box, in order.
func (x wiring) faults() []api.WireFault {
	deadL, crossL := x.letters.list(api.DeadLetter, api.CrossLetters)
	deadN, crossN := x.numbers.list(api.DeadNumber, api.CrossNumbers)
	return slices.Concat(deadL, deadN, crossL, crossN)
}

// plays returns what a press plays, counted along all selections.
func (x wiring) plays(letter, number int) int {
	if x.letters.dead[letter] || x.numbers.dead[number] {
		return -1
	}
	selection := 0
	for l := range x.letters.counts {
		for n := range x.numbers.counts {
			if x.letters.counts[letter] == l && x.numbers.counts[number] == n {
				return selection
			}
			selection++
		}
	}
	return -2
}

func (x wiring) explains(presses []api.WirePress) bool {
	return !slices.ContainsFunc(presses, func(p api.WirePress) bool { return x.plays(p.Letter, p.Number) != p.Got })
}

// wirings are all boxes laid out of so many buttons, with at most so many faults.
func wirings(letters, numbers, most int) iter.Seq[wiring] {
	return func(yield func(wiring) bool) {
		all := banks(numbers)
		for _, l := range banks(letters) {
			for _, n := range all {
				if l.faults+n.faults <= most && !yield(wiring{l, n}) {
					return
				}
			}
		}
	}
}

// presses are all presses of a box, by their letters, and then by their numbers.
func presses(w api.Wire) iter.Seq2[int, int] {
	return func(yield func(int, int) bool) {
		for letter := range w.Letters {
			for number := range w.Numbers {
				if !yield(letter, number) {
					return
				}
			}
		}
	}
}

// seen is what is seen in all truths of a box.
type seen struct {
	truths      []wiring
	sure, maybe []api.WireFault
	shows       map[[2]int][]int // for each letter and number
	left        map[[2]int]int
	next        [2]int
	none        bool // no press tells anything
}

// look goes through all truths of a box.
func look(w api.Wire) seen {
	s := seen{shows: map[[2]int][]int{}, left: map[[2]int]int{}, none: true}
	for x := range wirings(w.Letters, w.Numbers, w.Faults) {
		if x.explains(w.Presses) {
			s.truths = append(s.truths, x)
		}
	}
	for x := range wirings(w.Letters, w.Numbers, 1) {
		for _, f := range x.faults() {
			s.note(f)
		}
	}
	slices.SortFunc(s.sure, byKind)
	slices.SortFunc(s.maybe, byKind)
	least := len(s.truths)
	for letter, number := range presses(w) {
		key, in := [2]int{letter, number}, map[int]int{}
		for _, x := range s.truths {
			in[x.plays(letter, number)]++
		}
		for _, n := range in {
			s.left[key] = max(s.left[key], n)
		}
		s.shows[key] = slices.Sorted(maps.Keys(in))
		if s.left[key] < least {
			s.next, s.none, least = key, false, s.left[key]
		}
	}
	return s
}

// note notes a fault if it is sure, and if there may be one.
func (s *seen) note(f api.WireFault) {
	has := func(x wiring) bool { return slices.Contains(x.faults(), f) }
	if slices.ContainsFunc(s.truths, has) {
		s.maybe = append(s.maybe, f)
	}
	if !slices.ContainsFunc(s.truths, func(x wiring) bool { return !has(x) }) {
		s.sure = append(s.sure, f)
	}
}

func byKind(f, g api.WireFault) int {
	return (f.Kind-g.Kind)*10000 + (f.A-g.A)*100 + f.B - g.B
}

// fewestBy returns the least number of faults that explain some presses, -1 if none do.
func fewestBy(w api.Wire, presses []api.WirePress) int {
	fewest := -1
	for x := range wirings(w.Letters, w.Numbers, 2*(w.Letters+w.Numbers)) {
		if (fewest < 0 || x.letters.faults+x.numbers.faults < fewest) && x.explains(presses) {
			fewest = x.letters.faults + x.numbers.faults
		}
	}
	return fewest
}

// firstBy returns the first press that cannot be explained together with those before it, -1 if all can.
func firstBy(w api.Wire) int {
	for i := range w.Presses {
		if n := fewestBy(w, w.Presses[:i+1]); n < 0 || n > w.Faults {
			return i
		}
	}
	return -1
}

// limits is what drawn boxes have at most.
type limits struct{ letters, numbers, presses int }

var (
	few  = limits{2, 3, 4}
	some = limits{4, 3, 6}
	full = limits{api.MaxButtons, api.MaxButtons, api.MaxTried}
)

// drawn are so many boxes, the same ones in each run.
func drawn(count int, l limits) iter.Seq2[api.Wire, *rand.Rand] {
	return func(yield func(api.Wire, *rand.Rand) bool) {
		draw := rand.New(rand.NewPCG(11, uint64(10*l.letters+l.numbers)))
		for range count {
			if !yield(drawBox(draw, l), draw) {
				return
			}
		}
	}
}

// eachDrawn does something with drawn boxes of all sizes.
func eachDrawn(count int, do func(w api.Wire, draw *rand.Rand)) {
	for _, l := range []limits{few, some, full} {
		for w, draw := range drawn(count, l) {
			do(w, draw)
		}
	}
}

// drawBox draws a box, with presses most of which play what they do in one wiring.
func drawBox(draw *rand.Rand, l limits) api.Wire {
	w := box(1+draw.IntN(l.letters), 1+draw.IntN(l.numbers), draw.IntN(api.MaxFaults+1))
	x := drawWiring(draw, w, draw.IntN(api.MaxFaults+2))
	astray := draw.IntN(4) == 0
	for range draw.IntN(l.presses + 1) {
		p := press(draw.IntN(w.Letters), draw.IntN(w.Numbers), 0)
		p.Got = x.plays(p.Letter, p.Number)
		if astray && draw.IntN(4) == 0 {
			p.Got = draw.IntN(w.Letters*w.Numbers+1) - 1
		}
		w.Presses = append(w.Presses, p)
	}
	return w
}

// drawWiring draws a wiring of a box with at most so many faults.
func drawWiring(draw *rand.Rand, w api.Wire, most int) wiring {
	x := wiring{straight(w.Letters), straight(w.Numbers)}
	for range most {
		b := &x.letters
		if draw.IntN(2) == 0 {
			b = &x.numbers
		}
		button, other := draw.IntN(len(b.counts)), draw.IntN(len(b.counts))
		switch {
		case draw.IntN(2) == 0:
			b.dead[button] = true
		case button != other && b.counts[button] == button && b.counts[other] == other:
			b.cross(button, other)
		}
	}
	return x
}
