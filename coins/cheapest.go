package coins

// cheapest returns the least worth of coins that buy at least so many plays, and whether there are such coins.
//
// Selections cut a way into parts, each of which begins at the place 0, so that what a part buys depends on its worth alone.
// Without a part that buys nothing a way is cheaper and buys as much; all other parts buy what the selection behind them uses.
// So the parts can be chosen one by one.
func (w wheel) cheapest(plays int) (cents int, ok bool) {
	if len(w.Notches) == 0 || len(w.Coins) == 0 {
		return 0, false
	}
	sums := w.sums(plays*w.Round + w.Coins[0])
	costs := make([]int, plays+1)
	for n := 1; n <= plays; n++ {
		costs[n] = w.cost(sums, costs[:n])
	}
	return costs[plays], true
}

// sums returns all worths of coins from 1 to a limit, ascending.
func (w wheel) sums(limit int) []int {
	var sums []int
	is := make([]bool, limit+1)
	is[0] = true
	for cents := 1; cents <= limit; cents++ {
		for _, worth := range w.Coins {
			if worth <= cents && is[cents-worth] {
				is[cents] = true
			}
		}
		if is[cents] {
			sums = append(sums, cents)
		}
	}
	return sums
}

// cost returns the least worth of coins that buy one play more than the last one of costs, which has the least worth for each number of plays from 0 on.
func (w wheel) cost(sums, costs []int) int {
	plays := len(costs)
	least := -1
	for _, cents := range sums {
		bought := w.fromStart(cents)
		if bought == 0 {
			continue
		}
		all := cents + costs[max(0, plays-bought)]
		if least < 0 || all < least {
			least = all
		}
	}
	return least
}
