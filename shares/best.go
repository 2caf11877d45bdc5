package shares

import (
	"iter"
	"slices"

	"shellac/api"
)

// bestOrder returns the first order of all clauses in which the owner gets the most.
func bestOrder(s api.Share, takings int) []int {
	var best []int
	most := -1
	for order := range orders(len(s.Clauses)) {
		if cents := settled(ordered(s, order), takings).Owner; cents > most {
			best, most = order, cents
		}
	}
	return best
}

// ordered returns a contract with its clauses in an order.
func ordered(s api.Share, order []int) api.Share {
	out := api.Share{Loan: s.Loan}
	for _, clause := range order {
		out.Clauses = append(out.Clauses, s.Clauses[clause])
	}
	return out
}

// orders yields all orders of the numbers from 0 to count less 1, by their first numbers, then by their second ones, and so on; each is new memory.
func orders(count int) iter.Seq[[]int] {
	return func(yield func([]int) bool) {
		goOn(nil, count, yield)
	}
}

// goOn yields all orders that begin with some numbers; it returns whether more are asked for.
func goOn(first []int, count int, yield func([]int) bool) bool {
	if len(first) == count {
		return yield(first)
	}
	for n := range count {
		if slices.Contains(first, n) {
			continue
		}
		if !goOn(append(slices.Clip(first), n), count, yield) {
			return false
		}
	}
	return true
}
