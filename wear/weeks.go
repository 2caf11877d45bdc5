package wear

import (
	"iter"

	"shellac/api"
)

// noWeek is said if no week is meant.
const noWeek = -1

// amounts has for each record how much it is worn.
type amounts [api.MaxWearRecords]int

// stand is how much each record is worn, and how many plays the needle has done.
type stand struct {
	worn amounts
	age  int
}

// standBefore returns the stand of a valid box before its first week.
func standBefore(w api.Wear) stand {
	s := stand{age: w.Age}
	for record, r := range w.Records {
		s.worn[record] = r.Worn
	}
	return s
}

// isTooWorn returns whether a record is worn more than its limit.
func (s stand) isTooWorn(records []api.WearRecord) bool {
	for record, r := range records {
		if s.worn[record] > r.Limit {
			return true
		}
	}
	return false
}

// needle is a needle at work.
type needle struct {
	age, step int
	rough     []int
}

// play plays a record once, and returns by how much this wears it.
func (n *needle) play() int {
	wears := n.rough[min(n.age/n.step, len(n.rough)-1)]
	n.age++
	return wears
}

// week plays all that is played in a week, and returns by how much this wears each record.
func (n *needle) week(records []api.WearRecord, week int) amounts {
	var worn amounts
	for record, r := range records {
		for range r.Plays[week] {
			worn[record] += n.play()
		}
	}
	return worn
}

// weeks yields each week of a valid box with what it adds to the wear of each record, and with the age of the needle at its end, if the needle is replaced as in a plan.
// Which records the plan replaces makes no difference to this.
func weeks(w api.Wear, plan []api.WearWeek) iter.Seq2[int, stand] {
	return func(yield func(int, stand) bool) {
		n := needle{age: w.Age, step: w.Step, rough: w.Rough}
		for week := range w.Weeks {
			if plan[week].Needle == 1 {
				n.age = 0
			}
			worn := n.week(w.Records, week)
			if !yield(week, stand{worn: worn, age: n.age}) {
				return
			}
		}
	}
}

// follow yields each week of a plan with the stand at its end.
func follow(w api.Wear, plan []api.WearWeek) iter.Seq2[int, stand] {
	return func(yield func(int, stand) bool) {
		now := standBefore(w)
		for week, added := range weeks(w, plan) {
			for _, record := range plan[week].Records {
				now.worn[record] = 0
			}
			for record, worn := range added.worn {
				now.worn[record] += worn
			}
			now.age = added.age
			if !yield(week, now) {
				return
			}
		}
	}
}
