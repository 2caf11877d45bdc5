package shares

import "shellac/api"

// check returns ErrShare unless a contract is valid, and then ErrArg unless what else is asked about is.
func check(s api.Share, others bool) api.Errno {
	switch {
	case !valid(s):
		return api.ErrShare
	case !others:
		return api.ErrArg
	}
	return api.OK
}

// valid returns whether a contract is valid.
func valid(s api.Share) bool {
	if len(s.Clauses) > api.MaxClauses {
		return false
	}
	for _, c := range s.Clauses {
		if !isValid(c) {
			return false
		}
	}
	return isCents(s.Loan)
}

// isValid returns whether the kind of a clause is one, and all its numbers are valid, also those that its kind does not use.
func isValid(c api.Clause) bool {
	return isFrom(api.Front, c.Kind, api.Minimum) && isCents(c.Cents) && isFrom(0, c.Part, api.MaxPart) && isFrom(0, c.More, api.MaxPart)
}

// hasClause returns whether a number is that of a clause of a contract.
func hasClause(s api.Share, clause int) bool {
	return isFrom(0, clause, len(s.Clauses)-1)
}

func areCents(numbers []int) bool {
	for _, n := range numbers {
		if !isCents(n) {
			return false
		}
	}
	return true
}

func isCents(n int) bool { return isFrom(0, n, api.MaxCents) }

// isFrom returns whether a number is from low to high.
func isFrom(low, n, high int) bool {
	return low <= n && n <= high
}
