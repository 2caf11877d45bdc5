package pulses

import (
	"iter"
	"slices"

	"shellac/api"
)

// reading is a set of sparks of a train, and the list of selections of all other pulses.
type reading struct {
	sparks, list []int
}

// sameList returns whether two readings have the same list.
func sameList(a, b reading) bool { return slices.Equal(a.list, b.list) }

// read returns the list of all readings of a train, and the error of ask; then ErrMany if they have different ones.
func read(p api.Pulse, others bool) ([]int, api.Errno) {
	found, e := ask(p, others)
	if e != api.OK {
		return nil, e
	}
	if !all(found, func(r reading) bool { return sameList(r, found[0]) }) {
		return nil, api.ErrMany
	}
	return found[0].list, api.OK
}

// ask returns all readings of a train, and the error of check; then ErrNone if there are none.
func ask(p api.Pulse, others bool) ([]reading, api.Errno) {
	if e := check(p, others); e != api.OK {
		return nil, e
	}
	var found []reading
	for r := range readings(p, p.Sparks) {
		found = append(found, r)
	}
	if len(found) == 0 {
		return nil, api.ErrNone
	}
	return found, api.OK
}

// readings yields all readings that a valid train has with at most some sparks.
func readings(p api.Pulse, most int) iter.Seq[reading] {
	return func(yield func(reading) bool) {
		for sparks := range sets(len(p.Times), most) {
			list, clean := listOf(p, without(p.Times, sparks))
			if clean && !yield(reading{sparks, list}) {
				return
			}
		}
	}
}

// sets yields all sets of at most some of the numbers below an end, each of them ascending.
func sets(end, most int) iter.Seq[[]int] {
	return func(yield func([]int) bool) { grow(nil, 0, end, most, yield) }
}

// grow yields a set, and all into which it grows by at most some numbers from low on; it returns whether it was let go on.
func grow(set []int, low, end, most int, yield func([]int) bool) bool {
	if !yield(set) {
		return false
	}
	if most == 0 {
		return true
	}
	for n := low; n < end; n++ {
		// a set that was yielded is kept, so that no other one may grow in its memory
		if !grow(append(slices.Clip(set), n), n+1, end, most-1, yield) {
			return false
		}
	}
	return true
}

// without returns all times but those of some pulses.
func without(times, pulses []int) []int {
	var others []int
	for pulse, at := range times {
		if !slices.Contains(pulses, pulse) {
			others = append(others, at)
		}
	}
	return others
}

// count returns for how many elements of a list something is so.
func count[T any](list []T, so func(T) bool) int {
	number := 0
	for _, element := range list {
		if so(element) {
			number++
		}
	}
	return number
}

// all returns whether something is so for all elements of a list.
func all[T any](list []T, so func(T) bool) bool { return count(list, so) == len(list) }
