package tray

import (
	"slices"

	"shellac/api"
)

// bestOrder returns the first order of the records with the least end, and this end.
func bestOrder(t api.Tray) (best []int, end int) {
	end = never
	eachOrder(len(t.Records), func(order []int) {
		if e := deedsOf(ordered(t, order)).end; e < end {
			best, end = slices.Clone(order), e
		}
	})
	return best, end
}

// eachOrder calls a function with each order of the numbers from 0 to count less 1, beginning with the ascending one; the function must not keep it.
func eachOrder(count int, visit func(order []int)) {
	var order []int
	for n := range count {
		order = append(order, n)
	}
	var fill func(from int)
	fill = func(from int) {
		if from == count {
			visit(order)
			return
		}
		for i := from; i < count; i++ {
			order[from], order[i] = order[i], order[from]
			fill(from + 1)
			order[from], order[i] = order[i], order[from]
		}
	}
	fill(0)
}

// ordered returns a tray with its records in an order, and with presses of the same sides of the same records.
func ordered(t api.Tray, order []int) api.Tray {
	out := t
	out.Records = nil
	out.Presses = slices.Clone(t.Presses)
	var places [api.MaxTray]int // where the record of each place stands now
	for place, from := range order {
		out.Records = append(out.Records, t.Records[from])
		places[from] = place
	}
	for i, p := range t.Presses {
		out.Presses[i].Side = 2*places[p.Side/2] + p.Side%2
	}
	return out
}
