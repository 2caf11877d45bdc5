package book

import (
	"bytes"
	"strings"

	"shellac/api"
)

// page is the rows of a sheet.
type page [][]byte

// pageOf returns the rows of a sheet; ErrSheet unless it is one.
func pageOf(sheet string) (page, api.Errno) {
	rows, ended := strings.CutSuffix(sheet, string(feed))
	// they are counted before they are split, since there can be very many
	if !ended || strings.Count(rows, string(feed)) > api.MaxTexts {
		return nil, api.ErrSheet
	}
	p := page(bytes.Split([]byte(rows), []byte{feed}))
	for _, row := range p {
		if !isRow(row) || len(row) != len(p[0]) {
			return nil, api.ErrSheet
		}
	}
	return p, api.OK
}

// isRow returns whether some bytes can be a row of a sheet.
func isRow(row []byte) bool {
	for _, b := range row {
		if !isMark(b) {
			return false
		}
	}
	return 2 <= len(row) && len(row) <= api.MaxText+2
}

// withoutSums returns the book of some texts, with all its sums unread.
func withoutSums(texts []string) page {
	width := 1
	for _, text := range texts {
		width = max(width, len(text)+1)
	}
	var p page
	for _, text := range texts {
		row := append([]byte(text), end)
		row = append(row, bytes.Repeat([]byte{blank}, width-len(row))...)
		p = append(p, append(row, unread))
	}
	return append(p, bytes.Repeat([]byte{unread}, width+1))
}

// String returns the sheet that has these rows.
func (p page) String() string {
	var sheet strings.Builder
	for _, row := range p {
		sheet.Write(row)
		sheet.WriteByte(feed)
	}
	return sheet.String()
}

// textOf returns the text of a row, and whether it has one.
func textOf(row []byte) (text string, ok bool) {
	// the sum is cut off first, since it can be the end of a text, too
	written := string(row[:len(row)-1])
	return strings.CutSuffix(strings.TrimRight(written, string(blank)), string(end))
}

// row returns the places of a row.
func (p page) row(n int) []api.Mark {
	var places []api.Mark
	for column := range p[n] {
		places = append(places, api.Mark{Row: n, Column: column})
	}
	return places
}

// column returns the places of a column.
func (p page) column(n int) []api.Mark {
	var places []api.Mark
	for row := range p {
		places = append(places, api.Mark{Row: row, Column: n})
	}
	return places
}

// unreadOf returns those of some places that cannot be read.
func (p page) unreadOf(places []api.Mark) []api.Mark {
	var some []api.Mark
	for _, at := range places {
		if p[at.Row][at.Column] == unread {
			some = append(some, at)
		}
	}
	return some
}

// sum returns all values of some places that can be read, together.
func (p page) sum(places []api.Mark) int {
	sum := 0
	for _, at := range places {
		if b := p[at.Row][at.Column]; b != unread {
			sum += valueOf(b)
		}
	}
	return sum
}

// left returns all places that cannot be read, row by row.
func (p page) left() []api.Mark {
	var all []api.Mark
	for n := range p {
		all = append(all, p.unreadOf(p.row(n))...)
	}
	return all
}
