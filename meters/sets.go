package meters

import (
	"iter"
	"math/bits"

	"shellac/api"
)

const (
	wordBits = 64
	// maxSum is the greatest number that the plays of all weeks can be together.
	maxSum = api.MaxMeterWeeks * api.MaxTurns
)

// set is a set of sums of plays, each of which is a bit.
type set [maxSum/wordBits + 1]uint64

func (s *set) add(sum int) {
	s[sum/wordBits] |= 1 << (sum % wordBits)
}

func (s *set) has(sum int) bool {
	return s[sum/wordBits]>>(sum%wordBits)&1 == 1
}

func (s *set) count() int {
	count := 0
	for _, word := range s {
		count += bits.OnesCount64(word)
	}
	return count
}

// numbers are the sums of a set, ascending.
func (s set) numbers() iter.Seq[int] {
	return func(yield func(int) bool) {
		for i, word := range s {
			for ; word != 0; word &= word - 1 {
				if !yield(i*wordBits + bits.TrailingZeros64(word)) {
					return
				}
			}
		}
	}
}

// list returns the sums of a set, ascending.
func (s set) list() []int {
	var all []int
	for sum := range s.numbers() {
		all = append(all, sum)
	}
	return all
}

// where returns the sums of a set that are right.
func (s set) where(right func(sum int) bool) set {
	var out set
	for sum := range s.numbers() {
		if right(sum) {
			out.add(sum)
		}
	}
	return out
}

// or returns the sums that are in one of two sets.
func (s set) or(t set) set {
	for i, word := range t {
		s[i] |= word
	}
	return s
}

// and returns the sums that are in both of two sets.
func (s set) and(t set) set {
	for i, word := range t {
		s[i] &= word
	}
	return s
}

// plus returns the sums with so many plays more.
func (s set) plus(plays int) set {
	var out set
	words, rest := plays/wordBits, plays%wordBits
	for i := words; i < len(out); i++ {
		out[i] = s[i-words] << rest
		if i > words {
			out[i] |= s[i-words-1] >> (wordBits - rest)
		}
	}
	return out
}

// spread returns the sums with each number of plays of a span more.
func (s set) spread(plays api.Span) set {
	s = s.plus(plays.Low)
	// twice as many numbers of plays each time
	for done, all := 1, plays.High-plays.Low+1; done < all; {
		more := min(done, all-done)
		s = s.or(s.plus(more))
		done += more
	}
	return s
}

// sumsOf returns the sums of one of a set and one of another one.
func sumsOf(s, t set) set {
	if s.count() > t.count() {
		s, t = t, s
	}
	var out set
	for sum := range s.numbers() {
		out = out.or(t.plus(sum))
	}
	return out
}
