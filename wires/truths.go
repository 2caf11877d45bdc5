package wires

import "shellac/api"

// nothing is what a press plays that plays no selection.
const nothing = -1

// plays returns what a press plays with a set of faults.
func plays(w api.Wire, faults []api.WireFault, letter, number int) int {
	countedLetter, countedNumber := letter, number
	for _, f := range faults {
		switch {
		case f.Kind == api.DeadLetter && f.A == letter, f.Kind == api.DeadNumber && f.A == number:
			return nothing
		case f.Kind == api.CrossLetters:
			countedLetter = crossed(f, countedLetter)
		case f.Kind == api.CrossNumbers:
			countedNumber = crossed(f, countedNumber)
		}
	}
	return countedLetter*w.Numbers + countedNumber
}

// crossed returns the button that counts instead of one if there is a cross.
func crossed(f api.WireFault, button int) int {
	switch button {
	case f.A:
		return f.B
	case f.B:
		return f.A
	}
	return button
}

// explains returns whether each of some presses plays with a set of faults what it did.
func explains(w api.Wire, faults []api.WireFault, presses []api.WirePress) bool {
	for _, p := range presses {
		if plays(w, faults, p.Letter, p.Number) != p.Got {
			return false
		}
	}
	return true
}

// truthsOf returns all truths of a valid box.
func truthsOf(w api.Wire) [][]api.WireFault {
	var truths [][]api.WireFault
	for _, set := range sets(w, w.Faults) {
		if explains(w, set, w.Presses) {
			truths = append(truths, set)
		}
	}
	return truths
}

// played returns for each selection that a press plays in some truth in how many truths it does.
func played(w api.Wire, truths [][]api.WireFault, letter, number int) map[int]int {
	in := map[int]int{}
	for _, truth := range truths {
		in[plays(w, truth, letter, number)]++
	}
	return in
}

// left returns the greatest number of truths in which a press plays the same.
func left(w api.Wire, truths [][]api.WireFault, letter, number int) int {
	most := 0
	for _, in := range played(w, truths, letter, number) {
		most = max(most, in)
	}
	return most
}
