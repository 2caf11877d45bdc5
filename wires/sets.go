package wires

import (
	"cmp"
	"slices"

	"shellac/api"
)

// faultsOf returns all faults of a valid box, in order.
func faultsOf(w api.Wire) []api.WireFault {
	return slices.Concat(
		deads(api.DeadLetter, w.Letters), deads(api.DeadNumber, w.Numbers),
		crosses(api.CrossLetters, w.Letters), crosses(api.CrossNumbers, w.Numbers),
	)
}

// deads returns the faults of a kind that each of some buttons can have alone.
func deads(kind, buttons int) []api.WireFault {
	var all []api.WireFault
	for button := range buttons {
		all = append(all, api.WireFault{Kind: kind, A: button})
	}
	return all
}

// crosses returns the faults of a kind that two of some buttons can have together.
func crosses(kind, buttons int) []api.WireFault {
	var all []api.WireFault
	for a := range buttons {
		for b := a + 1; b < buttons; b++ {
			all = append(all, api.WireFault{Kind: kind, A: a, B: b})
		}
	}
	return all
}

// sets returns all sets of at most so many faults of a valid box, those of fewer faults first.
func sets(w api.Wire, most int) [][]api.WireFault {
	faults := faultsOf(w)
	all := [][]api.WireFault{nil}
	for level := all; most > 0; most-- {
		level = grown(level, faults)
		all = append(all, level...)
	}
	return all
}

// grown returns all sets that are one of some sets with one fault more behind it.
func grown(some [][]api.WireFault, faults []api.WireFault) [][]api.WireFault {
	var more [][]api.WireFault
	for _, set := range some {
		for _, f := range faults {
			if fits(set, f) {
				// Without room behind it, the set is copied: else all sets that grow from it would have their last fault in one place.
				more = append(more, append(set[:len(set):len(set)], f))
			}
		}
	}
	return more
}

// fits returns whether a set with a fault of its box behind it is a set, too.
func fits(set []api.WireFault, f api.WireFault) bool {
	for _, before := range set {
		if compare(before, f) >= 0 || clash(before, f) {
			return false
		}
	}
	return true
}

func compare(f, g api.WireFault) int {
	return cmp.Or(cmp.Compare(f.Kind, g.Kind), cmp.Compare(f.A, g.A), cmp.Compare(f.B, g.B))
}

// clash returns whether two faults are crosses of one kind with a button in both.
func clash(f, g api.WireFault) bool {
	if f.Kind != g.Kind || f.Kind != api.CrossLetters && f.Kind != api.CrossNumbers {
		return false
	}
	return f.A == g.A || f.A == g.B || f.B == g.A || f.B == g.B
}
