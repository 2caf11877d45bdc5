package meters

import (
	"iter"
	"slices"

	"shellac/api"
)

const (
	// turn is how many numbers the meter shows until it goes round.
	turn = 100
	// tooMany are more readings than a meter has.
	tooMany = api.MaxReads + 1
)

// counts has for each number that the meter can show how many readings are not right, at the least, if it does.
type counts [turn]int

// judge says how many readings are not right if the meter shows a number when so many weeks are over.
type judge func(after, shown int) int

// wrongOf judges the readings of a meter.
func wrongOf(m api.Meter) judge {
	return func(after, shown int) int {
		count := 0
		for _, r := range m.Readings {
			if r.After == after && r.Shown != shown {
				count++
			}
		}
		return count
	}
}

// asIf judges as if a reading had to be right, or had to be not right.
func asIf(m api.Meter, reading int, right bool) judge {
	wrong, r := wrongOf(m), m.Readings[reading]
	return func(after, shown int) int {
		if r.After == after && (r.Shown == shown) != right {
			return tooMany
		}
		return wrong(after, shown)
	}
}

// fewest returns the least number of readings that are not right.
func fewest(m api.Meter, wrong judge) int {
	all := since(m, 0, wrong)
	return slices.Min(all[:])
}

// before counts the readings of the time before so many weeks are over.
func before(m api.Meter, after int, wrong judge) counts {
	var now counts
	for week, plays := range m.Weeks[:after] {
		then := now
		for shown := range now {
			now[shown] = tooMany
		}
		for shown := range then {
			count := then[shown] + wrong(week, shown)
			for n := range turns(plays) {
				end := (shown + n) % turn
				now[end] = min(now[end], count)
			}
		}
	}
	return now
}

// since counts the readings of the time from when so many weeks are over.
func since(m api.Meter, after int, wrong judge) counts {
	var now counts
	for shown := range now {
		now[shown] = wrong(len(m.Weeks), shown)
	}
	for week := len(m.Weeks) - 1; week >= after; week-- {
		then := now
		for shown := range now {
			count := tooMany
			for n := range turns(m.Weeks[week]) {
				count = min(count, then[(shown+n)%turn])
			}
			now[shown] = count + wrong(week, shown)
		}
	}
	return now
}

// turns are numbers of plays after which the meter shows all that it can after those of a span: more than a turn shows nothing else.
func turns(plays api.Span) iter.Seq[int] {
	return func(yield func(int) bool) {
		for n := plays.Low; n <= plays.High && n < plays.Low+turn; n++ {
			if !yield(n) {
				return
			}
		}
	}
}
