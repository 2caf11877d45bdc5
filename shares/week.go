package shares

import "shellac/api"

const (
	// hundred is how many parts a cent has.
	hundred = 100
	// coin is the cents of the least coin in which a Percent or a Steps is paid.
	coin = 5
)

// party is to whom something is given.
type party int

const (
	operator party = iota
	lender         // the operator, for the loan
	owner
)

// rule is what a kind of clause does.
type rule struct {
	asks func(week, api.Clause) int // how much it asks for; it gives no more than the rest
	to   party
}

// rules returns what each kind of clause does, by kinds; there is no kind 0.
func rules() [api.Minimum + 1]rule {
	return [...]rule{
		api.Front:   {asks: week.front, to: operator},
		api.Repay:   {asks: week.repay, to: lender},
		api.Percent: {asks: week.percent, to: owner},
		api.Steps:   {asks: week.steps, to: owner},
		api.Minimum: {asks: week.minimum, to: owner},
	}
}

// week is one behind some clauses of a valid contract. It is a value: what goes on from it changes nothing of it.
type week struct {
	api.Split     // what each has got so far
	rest      int // what of the takings is not yet given to anybody
	owed      int // what is still owed
}

func (w week) front(c api.Clause) int { return c.Cents }

func (w week) repay(c api.Clause) int { return min(c.Cents, w.owed) }

func (w week) percent(c api.Clause) int { return inCoins(w.rest * c.Part) }

func (w week) steps(c api.Clause) int {
	low := min(w.rest, c.Cents)
	return inCoins(low*c.Part + (w.rest-low)*c.More)
}

func (w week) minimum(c api.Clause) int { return max(0, c.Cents-w.Owner) }

// inCoins returns hundredths of cents as cents, rounded down to whole coins.
func inCoins(hundredths int) int {
	return hundredths / (hundred * coin) * coin
}

// begin returns a week with takings of which nothing is given yet.
func begin(s api.Share, takings int) week {
	return week{rest: takings, owed: s.Loan}
}

// settled returns a week with takings behind all clauses, with nothing left.
func settled(s api.Share, takings int) week {
	return begin(s, takings).behind(s.Clauses).end()
}

// behind returns the week behind some more clauses.
func (w week) behind(clauses []api.Clause) week {
	for _, c := range clauses {
		w = w.pay(w.gives(c), rules()[c.Kind].to)
	}
	return w
}

// gives returns how much of the rest a clause gives.
func (w week) gives(c api.Clause) int {
	return min(w.rest, rules()[c.Kind].asks(w, c))
}

// pay returns the week in which some more of the rest is given to somebody.
func (w week) pay(cents int, to party) week {
	w.rest -= cents
	switch to {
	case operator:
		w.Operator += cents
	case lender:
		w.Operator += cents
		w.Repaid += cents
		w.owed -= cents
	case owner:
		w.Owner += cents
	}
	return w
}

// end returns the week in which what is left is the operator's.
func (w week) end() week { return w.pay(w.rest, operator) }
