package book

import "shellac/api"

// groups tells what hangs together: each member leads to another one of its group, but for the head of the group, which leads to none.
type groups[T comparable] map[T]T

// head returns the member to which all of a group lead.
func (g groups[T]) head(member T) T {
	for {
		next, ok := g[member]
		if !ok {
			return member
		}
		member = next
	}
}

// join makes one group of those of two members, and returns whether they were two.
func (g groups[T]) join(a, b T) bool {
	a, b = g.head(a), g.head(b)
	if a == b {
		return false
	}
	g[a] = b
	return true
}

// side is a row or a column of a sheet.
type side struct {
	isColumn bool
	number   int
}

// closing returns those of some places whose row and column hang together by the places before. Without them no places make a ring, so that some line always has just one of them, until all are restored; and with one fewer found, a ring would be left.
func closing(places []api.Mark) []api.Mark {
	together := groups[side]{}
	var some []api.Mark
	for _, at := range places {
		if !together.join(side{number: at.Row}, side{isColumn: true, number: at.Column}) {
			some = append(some, at)
		}
	}
	return some
}
