package shares_test

import (
	"iter"
	"math/rand/v2"
	"slices"

	"shellac/api"
)

// This file is a second look at contracts, by which takings are given out cent by cent, and for which all orders are laid out: the tests compare the package with it.

// contractC is the contract of the chapter's examples.
func contractC() api.Share {
	return contract(700, front(500), repay(300), steps(1000, 40, 60), minimum(450))
}

func contract(loan int, clauses ...api.Clause) api.Share {
	return api.Share{Clauses: clauses, Loan: loan}
}

func front(cents int) api.Clause { return api.Clause{Kind: api.Front, Cents: cents} }

func repay(cents int) api.Clause { return api.Clause{Kind: api.Repay, Cents: cents} }

func percent(part int) api.Clause { return api.Clause{Kind: api.Percent, Part: part} }

func steps(cents, part, more int) api.Clause {
	return api.Clause{Kind: api.Steps, Cents: cents, Part: part, More: more}
}

func minimum(cents int) api.Clause { return api.Clause{Kind: api.Minimum, Cents: cents} }

// widest is a contract with all that the limits allow.
func widest() api.Share {
	c := api.Clause{Kind: api.Steps, Cents: api.MaxCents, Part: api.MaxPart, More: api.MaxPart}
	return contract(api.MaxCents, slices.Repeat([]api.Clause{c}, api.MaxClauses)...)
}

// falling is a contract of which the owner gets less of 10 cents than of 9: the first clause gives 5 more of them, the last one 5 less, and the one between levels the first.
func falling() api.Share { return contract(0, percent(50), minimum(3), percent(84)) }

// with returns a contract with something changed.
func with(s api.Share, change func(s *api.Share)) api.Share {
	s.Clauses = slices.Clone(s.Clauses)
	change(&s)
	return s
}

// owes returns a contract with another loan.
func owes(s api.Share, loan int) api.Share {
	s.Loan = loan
	return s
}

// lacks returns a contract without one of its clauses.
func lacks(s api.Share, clause int) api.Share {
	return with(s, func(s *api.Share) { s.Clauses = slices.Delete(s.Clauses, clause, clause+1) })
}

// puts returns a contract with its clauses in an order.
func puts(s api.Share, order []int) api.Share {
	return with(s, func(x *api.Share) {
		for place, from := range order {
			x.Clauses[place] = s.Clauses[from]
		}
	})
}

// cuts returns how many clauses of a contract are a Percent or a Steps.
func cuts(s api.Share) int {
	n := 0
	for _, c := range s.Clauses {
		if c.Kind == api.Percent || c.Kind == api.Steps {
			n++
		}
	}
	return n
}

// counter is on which the takings of a week lie in cents, and are given out.
type counter struct {
	api.Split
	rest, owed int
	gives      []int
}

// toOwner and toOperator give out one cent.
func (x *counter) toOwner() {
	x.rest--
	x.Owner++
}

func (x *counter) toOperator() {
	x.rest--
	x.Operator++
}

// give does what a clause says.
func (x *counter) give(c api.Clause) {
	before := x.rest
	switch c.Kind {
	case api.Front:
		for n := 0; n < c.Cents && x.rest > 0; n++ {
			x.toOperator()
		}
	case api.Repay:
		for n := 0; n < c.Cents && x.rest > 0 && x.owed > 0; n++ {
			x.toOperator()
			x.Repaid++
			x.owed--
		}
	case api.Percent, api.Steps:
		for range coinsOf(c, x.rest) {
			for range 5 {
				x.toOwner()
			}
		}
	case api.Minimum:
		for x.Owner < c.Cents && x.rest > 0 {
			x.toOwner()
		}
	}
	x.gives = append(x.gives, before-x.rest)
}

// coinsOf returns how many whole coins of 5 cents the parts of all cents of a rest are.
func coinsOf(c api.Clause, rest int) int {
	hundredths, coins := 0, 0
	for cent := range rest {
		if c.Kind == api.Percent || cent < c.Cents {
			hundredths += c.Part
		} else {
			hundredths += c.More
		}
		if hundredths >= 500 {
			hundredths -= 500
			coins++
		}
	}
	return coins
}

// settle gives out the takings of a week, a gift to the owner first.
func settle(s api.Share, takings, gift int) counter {
	x := counter{rest: takings, owed: s.Loan}
	for n := 0; n < gift && x.rest > 0; n++ {
		x.toOwner()
	}
	for _, c := range s.Clauses {
		x.give(c)
	}
	for x.rest > 0 {
		x.toOperator()
	}
	return x
}

// ownerOf returns what the owner gets of the takings of a week.
func ownerOf(s api.Share, takings int) int { return settle(s, takings, 0).Owner }

// weeksBy returns the splits of some weeks, and what is owed then.
func weeksBy(s api.Share, takings []int) (l []api.Split, owed int) {
	for _, cents := range takings {
		x := settle(s, cents, 0)
		l = append(l, x.Split)
		s.Loan = x.owed
	}
	return l, s.Loan
}

// enoughBy returns the least takings of which the owner gets a goal, -1 if there are none up to a number.
func enoughBy(s api.Share, goal, most int) int {
	for cents := range most + 1 {
		if ownerOf(s, cents) >= goal {
			return cents
		}
	}
	return -1
}

// repaidBy returns after how many weeks nothing is owed, -1 if something is after 1000.
func repaidBy(s api.Share, takings int) int {
	weeks := 0
	for s.Loan > 0 {
		x := settle(s, takings, 0)
		if weeks == 1000 {
			return -1
		}
		s.Loan = x.owed
		weeks++
	}
	return weeks
}

// allOrders are all orders of so many numbers, as lists compare.
func allOrders(count int) [][]int {
	all := [][]int{nil}
	for range count {
		var longer [][]int
		for _, order := range all {
			for n := range count {
				if !slices.Contains(order, n) {
					longer = append(longer, append(slices.Clone(order), n))
				}
			}
		}
		all = longer
	}
	return slices.SortedFunc(slices.Values(all), slices.Compare)
}

// bestBy returns the first of all orders of which the owner gets the most.
func bestBy(s api.Share, takings int) []int {
	all := allOrders(len(s.Clauses))
	best := all[0]
	for _, order := range all[1:] {
		if ownerOf(puts(s, order), takings) > ownerOf(puts(s, best), takings) {
			best = order
		}
	}
	return best
}

// limits is what drawn contracts, and the takings of a week, have at most.
type limits struct{ clauses, cents, loan, takings int }

var (
	// few are contracts with few clauses and cents, so that their ends often meet.
	few = limits{clauses: 3, cents: 20, loan: 30, takings: 40}
	// some are contracts of all of whose clauses there is often something left.
	some = limits{clauses: api.MaxClauses, cents: 200, loan: 400, takings: 1000}
	// full are contracts up to the limits.
	full = limits{clauses: api.MaxClauses, cents: api.MaxCents, loan: api.MaxCents, takings: api.MaxCents}
)

// drawer draws contracts, and what is asked of them, up to limits.
type drawer struct {
	*rand.Rand
	limits
}

// drawn are so many contracts, the same ones in each run.
func drawn(count int, l limits) iter.Seq2[api.Share, drawer] {
	return func(yield func(api.Share, drawer) bool) {
		draw := drawer{rand.New(rand.NewPCG(9, uint64(l.takings))), l}
		for range count {
			if !yield(draw.contract(), draw) {
				return
			}
		}
	}
}

// contract draws a contract, most often with some clauses and a loan.
func (d drawer) contract() api.Share {
	s := contract(min(1, d.IntN(4)) * d.IntN(d.loan+1))
	for range max(d.IntN(d.clauses+1), d.IntN(d.clauses+1)) {
		s.Clauses = append(s.Clauses, d.clause())
	}
	return s
}

// clause draws a clause; the numbers that its kind does not use are drawn, too.
func (d drawer) clause() api.Clause {
	c := api.Clause{Kind: 1 + d.IntN(5), Cents: d.IntN(d.cents + 1), Part: d.IntN(api.MaxPart + 1), More: d.IntN(api.MaxPart + 1)}
	switch d.IntN(8) {
	case 0:
		c.Part = api.MaxPart * d.IntN(2)
	case 1:
		c.More = api.MaxPart * d.IntN(2)
	case 2:
		c.Cents = d.IntN(3)
	}
	return c
}

// sum draws the takings of a week, or a gift, or a goal.
func (d drawer) sum() int { return d.IntN(d.takings + 1) }

// weeks draws the takings of at most so many weeks.
func (d drawer) weeks(most int) []int {
	var weeks []int
	for range d.IntN(most + 1) {
		weeks = append(weeks, d.sum())
	}
	return weeks
}
