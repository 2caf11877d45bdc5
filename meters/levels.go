package meters

import "shellac/api"

// levels has for each number of readings the sums of plays with which at most so many readings are not right.
type levels [api.MaxReads + 1]set

// walk returns the sums of the weeks from one up to another one if the meter shows a number before them.
// It takes the readings from before the first week up to before the last one, and takes some earlier ones for not right.
func walk(m api.Meter, shown, from, to, wrong int) levels {
	var l levels
	for i := wrong; i < len(l); i++ {
		l[i].add(0)
	}
	for week := from; week < to; week++ {
		l.read(m, shown, week)
		l.spread(m.Weeks[week])
	}
	return l
}

// toEnd returns the sums from a week up to the end, with all readings from before it.
func toEnd(m api.Meter, shown, from int) levels {
	l := walk(m, shown, from, len(m.Weeks), 0)
	l.read(m, shown, len(m.Weeks))
	return l
}

// read takes the readings when so many weeks are over, if the meter showed a number before the sums.
func (l *levels) read(m api.Meter, shown, after int) {
	for _, r := range m.Readings {
		if r.After == after {
			l.judge(func(sum int) bool { return (shown+sum)%turn == r.Shown })
		}
	}
}

// judge takes a reading that is right for some sums.
func (l *levels) judge(right func(sum int) bool) {
	agreed := l[len(l)-1].where(right)
	// from the end, since the readings that are not right count one more
	for i := len(l) - 1; i > 0; i-- {
		l[i] = l[i].and(agreed).or(l[i-1])
	}
	l[0] = l[0].and(agreed)
}

// spread adds a week with the plays of a span.
func (l *levels) spread(plays api.Span) {
	var before, after set
	for i, s := range l {
		// levels are often the same as the one below them
		if s != before {
			before, after = s, s.spread(plays)
		}
		l[i] = after
	}
}

// sums returns the sums of the weeks from one up to another one in truths.
func sums(m api.Meter, from, to int) set {
	wrong := wrongOf(m)
	first, last := before(m, from, wrong), since(m, to, wrong)
	var all set
	for shown, count := range first {
		if count > m.Wrong {
			continue
		}
		l := walk(m, shown, from, to, count)
		all = all.or(l[m.Wrong].where(func(sum int) bool {
			left := m.Wrong - last[(shown+sum)%turn]
			return left >= 0 && l[left].has(sum)
		}))
	}
	return all
}

// until returns for each number that the meter can show when so many weeks are over the sums until then, with the readings before.
func until(m api.Meter, after int) []levels {
	all := make([]levels, turn)
	for start := range turn {
		for i, s := range walk(m, start, 0, after, 0) {
			for sum := range s.numbers() {
				all[(start+sum)%turn][i].add(sum)
			}
		}
	}
	return all
}

// doubt returns how many sums of all weeks there are at the most if it is known what the meter shows when so many weeks are over.
func doubt(m api.Meter, after int) int {
	most := 0
	for shown, first := range until(m, after) {
		all := together(first, toEnd(m, shown, after), m.Wrong)
		most = max(most, all.count())
	}
	return most
}

// together returns the sums of two times together, with at most so many readings that are not right.
func together(first, last levels, wrong int) set {
	var all set
	for i := range wrong + 1 {
		// what is the same with one reading less that is not right was there already, with more left for the other time
		if i == 0 || first[i] != first[i-1] {
			all = all.or(sumsOf(first[i], last[wrong-i]))
		}
	}
	return all
}
