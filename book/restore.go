package book

import "shellac/api"

// direction returns the places of the row, or of the column, that has a number.
type direction func(p page, n int) []api.Mark

// restored returns a sheet when it is restored; ErrSheet unless it is one.
func restored(sheet string) (page, api.Errno) {
	p, e := pageOf(sheet)
	if e != api.OK {
		return nil, e
	}
	p.restore()
	return p, api.OK
}

// mended returns a sheet when it is restored; ErrLost if a mark still cannot be read, then ErrClash unless all is right.
func mended(sheet string) (page, api.Errno) {
	p, e := restored(sheet)
	switch {
	case e != api.OK:
		return nil, e
	case len(p.left()) > 0:
		return nil, api.ErrLost
	case len(p.wrongRows()) > 0 || len(p.wrongColumns()) > 0:
		return nil, api.ErrClash
	}
	return p, api.OK
}

// restore restores all marks of a page that can be restored.
func (p page) restore() {
	for p.restoreFirst(len(p), page.row) || p.restoreFirst(len(p[0]), page.column) {
	}
}

// restoreFirst restores the first one of so many lines that has just one mark that cannot be read; it returns whether there is one.
func (p page) restoreFirst(many int, line direction) bool {
	for n := range many {
		places := line(p, n)
		some := p.unreadOf(places)
		if len(some) == 1 {
			at := some[0]
			p[at.Row][at.Column] = lacking(p.sum(places))
			return true
		}
	}
	return false
}

func (p page) wrongRows() []int { return p.wrong(len(p), page.row) }

func (p page) wrongColumns() []int { return p.wrong(len(p[0]), page.column) }

// wrong returns the numbers of those of so many lines that are not right.
func (p page) wrong(many int, line direction) []int {
	var numbers []int
	for n := range many {
		places := line(p, n)
		if len(p.unreadOf(places)) > 0 || p.sum(places)%values != 0 {
			numbers = append(numbers, n)
		}
	}
	return numbers
}
