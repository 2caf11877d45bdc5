package book_test

import (
	"iter"
	"math/rand/v2"
	"slices"
	"strings"

	"shellac/api"
)

// This file is a second look at sheets: their values are laid out in a map, books are found by trying all bytes, and what is left by trying all sets of marks, or by restoring them in a drawn order. The tests compare the package with it.

// alphabet is all bytes that have a value, in the order of their values.
const alphabet = ` !"#$%&'()*+,-./0123456789:;<=>@ABCDEFGHIJKLMNOPQRSTUVWXYZ[\]^_` + "`" + `abcdefghijklmnopqrstuvwxyz{|}~`

// firstBook is the first book of the chapter's examples, and ringed is the one that has a ring of lost marks.
const (
	firstBook = "ab|_\nc| @\n[A#!\n"
	ringed    = "??|_\n?? @\n[A#!\n"
	noTexts   = "  \n"
)

// laid is the values of a sheet; marks that cannot be read have none.
type laid struct {
	rows, columns int
	values        map[api.Mark]int
}

// lay lays a sheet out.
func lay(sheet string) laid {
	rows := strings.Split(strings.TrimSuffix(sheet, "\n"), "\n")
	l := laid{len(rows), len(rows[0]), map[api.Mark]int{}}
	for r, row := range rows {
		for c := range row {
			if value := strings.IndexByte(alphabet, row[c]); value >= 0 {
				l.values[api.Mark{Row: r, Column: c}] = value
			}
		}
	}
	return l
}

// sheet returns the sheet that was laid out.
func (l laid) sheet() string {
	var text strings.Builder
	for at := range l.places() {
		if value, ok := l.values[at]; ok {
			text.WriteByte(alphabet[value])
		} else {
			text.WriteByte('?')
		}
		if at.Column == l.columns-1 {
			text.WriteByte('\n')
		}
	}
	return text.String()
}

// places are all places, row by row.
func (l laid) places() iter.Seq[api.Mark] {
	return func(yield func(api.Mark) bool) {
		for n := range l.rows * l.columns {
			if !yield(api.Mark{Row: n / l.columns, Column: n % l.columns}) {
				return
			}
		}
	}
}

// lost returns all places that have no value, row by row.
func (l laid) lost() []api.Mark {
	var all []api.Mark
	for at := range l.places() {
		if _, ok := l.values[at]; !ok {
			all = append(all, at)
		}
	}
	return all
}

// sums returns the sum of each row and of each column.
func (l laid) sums() (rows, columns []int) {
	rows, columns = make([]int, l.rows), make([]int, l.columns)
	for at, value := range l.values {
		rows[at.Row] += value
		columns[at.Column] += value
	}
	return rows, columns
}

// isRight returns whether each mark can be read, and each sum is a multiple of 94.
func (l laid) isRight() bool {
	rows, columns := l.sums()
	return len(l.lost()) == 0 && !slices.ContainsFunc(slices.Concat(rows, columns), func(sum int) bool { return sum%94 != 0 })
}

// isMultiple returns whether the values of a row, or of a column, are together a multiple of 94.
func (l laid) isMultiple(at api.Mark, alongRow bool) bool {
	sum := 0
	if alongRow {
		for c := range l.columns {
			sum += l.values[api.Mark{Row: at.Row, Column: c}]
		}
	} else {
		for r := range l.rows {
			sum += l.values[api.Mark{Row: r, Column: at.Column}]
		}
	}
	return sum%94 == 0
}

// summed returns the sheet whose rows but the last begin with some strings, which are as long as each other; each of its sums is found by trying all bytes.
func summed(begins ...string) string {
	l := laid{len(begins) + 1, len(begins[0]) + 1, map[api.Mark]int{}}
	for r, begin := range begins {
		for c := range begin {
			l.values[api.Mark{Row: r, Column: c}] = strings.IndexByte(alphabet, begin[c])
		}
	}
	for _, at := range l.lost() {
		for value := range alphabet {
			if l.values[at] = value; l.isMultiple(at, at.Row < l.rows-1) {
				break
			}
		}
	}
	return l.sheet()
}

// bookOf returns the book of some texts.
func bookOf(texts ...string) string {
	if len(texts) == 0 {
		return noTexts
	}
	longest := 0
	for _, text := range texts {
		longest = max(longest, len(text))
	}
	var begins []string
	for _, text := range texts {
		begins = append(begins, text+"|"+strings.Repeat(" ", longest-len(text)))
	}
	return summed(begins...)
}

// mark returns a place.
func mark(row, column int) api.Mark { return api.Mark{Row: row, Column: column} }

// with returns a sheet that has another byte at some places.
func with(sheet string, b byte, places ...api.Mark) string {
	columns := strings.Index(sheet, "\n") + 1
	text := []byte(sheet)
	for _, at := range places {
		text[at.Row*columns+at.Column] = b
	}
	return string(text)
}

// without returns a sheet on which some places cannot be read.
func without(sheet string, places ...api.Mark) string { return with(sheet, '?', places...) }

// told returns a sheet that has at some places the bytes of another one.
func told(sheet, by string, places ...api.Mark) string {
	columns := strings.Index(sheet, "\n") + 1
	for _, at := range places {
		sheet = with(sheet, by[at.Row*columns+at.Column], at)
	}
	return sheet
}

// isAlone returns whether a place is the only one of some in its row, or in its column.
func isAlone(places []api.Mark, at api.Mark) bool {
	inRow := slices.ContainsFunc(places, func(other api.Mark) bool { return other.Row == at.Row && other.Column != at.Column })
	inColumn := slices.ContainsFunc(places, func(other api.Mark) bool { return other.Column == at.Column && other.Row != at.Row })
	return !inRow || !inColumn
}

// partsOf are all parts of a list.
func partsOf(places []api.Mark) iter.Seq[[]api.Mark] {
	return func(yield func([]api.Mark) bool) {
		for bits := range 1 << len(places) {
			var part []api.Mark
			for i, at := range places {
				if bits>>i&1 == 1 {
					part = append(part, at)
				}
			}
			if !yield(part) {
				return
			}
		}
	}
}

// mostTried is how many places there are at most of which all parts are tried.
const mostTried = 10

// leftOf returns which of some places are left if the others are restored: all that are in a part of which none is alone; or, of many places, what is left if those that are alone are taken away, in a drawn order.
func leftOf(draw *rand.Rand, places []api.Mark) []api.Mark {
	if len(places) > mostTried {
		return whittled(draw, places)
	}
	stuck := map[api.Mark]bool{}
	for part := range partsOf(places) {
		if !slices.ContainsFunc(part, func(at api.Mark) bool { return isAlone(part, at) }) {
			for _, at := range part {
				stuck[at] = true
			}
		}
	}
	return slices.DeleteFunc(slices.Clone(places), func(at api.Mark) bool { return !stuck[at] })
}

// whittled returns what is left of some places, by rows, if those that are alone are taken away, in a drawn order.
func whittled(draw *rand.Rand, places []api.Mark) []api.Mark {
	places = slices.Clone(places)
	draw.Shuffle(len(places), func(i, j int) { places[i], places[j] = places[j], places[i] })
	for {
		i := slices.IndexFunc(places, func(at api.Mark) bool { return isAlone(places, at) })
		if i < 0 {
			slices.SortFunc(places, func(a, b api.Mark) int { return 100*(a.Row-b.Row) + a.Column - b.Column })
			return places
		}
		places = slices.Delete(places, i, i+1)
	}
}

// fewestOf returns how many of some places that are left have to be found at the least: the least part without which none is left; or, of many places, what the chapter says of the groups that hang together.
func fewestOf(draw *rand.Rand, left []api.Mark) int {
	if len(left) > mostTried {
		return byGroups(left)
	}
	fewest := len(left)
	for part := range partsOf(left) {
		rest := slices.DeleteFunc(slices.Clone(left), func(at api.Mark) bool { return slices.Contains(part, at) })
		if len(leftOf(draw, rest)) == 0 {
			fewest = min(fewest, len(part))
		}
	}
	return fewest
}

// byGroups returns how many places there are, less how many rows and columns they are in, and one more for each group of these that hangs together.
func byGroups(places []api.Mark) int {
	// at first each row and each column has a number of its own
	rows, columns := map[int]int{}, map[int]int{}
	for _, at := range places {
		rows[at.Row], columns[at.Column] = at.Row, 100+at.Column
	}
	for changed := true; changed; {
		changed = false
		for _, at := range places {
			if a, b := rows[at.Row], columns[at.Column]; a != b {
				rows[at.Row], columns[at.Column] = min(a, b), min(a, b)
				changed = true
			}
		}
	}
	groups := map[int]bool{}
	for _, number := range rows {
		groups[number] = true
	}
	return len(places) - len(rows) - len(columns) + len(groups)
}

// size is how many texts drawn books have at most, and how long these are at most.
type size struct{ texts, length int }

var (
	small = size{3, 3}
	some  = size{8, 9}
	full  = size{api.MaxTexts, api.MaxText}
)

// eachBook does something with so many drawn books of each size, the same ones in each run.
func eachBook(count int, do func(texts []string, sheet string, draw *rand.Rand)) {
	for _, s := range []size{small, some, full} {
		draw := rand.New(rand.NewPCG(14, uint64(s.texts)))
		for range count {
			texts := drawTexts(draw, s)
			do(texts, bookOf(texts...), draw)
		}
	}
}

// drawTexts draws texts, now and then as many and as long ones as there can be.
func drawTexts(draw *rand.Rand, s size) []string {
	many, length := draw.IntN(s.texts+1), draw.IntN(s.length+1)
	if draw.IntN(8) == 0 {
		many, length = s.texts, s.length
	}
	var texts []string
	for range many {
		var text []byte
		for range draw.IntN(length + 1) {
			// blanks and what ends a text come more often
			text = append(text, (alphabet + "        ||||||||")[draw.IntN(len(alphabet)+16)])
		}
		texts = append(texts, string(text))
	}
	return texts
}

// drawPlaces draws at most so many places of a sheet, each of them once; often they are in a few rows and columns.
func drawPlaces(draw *rand.Rand, sheet string, most int) []api.Mark {
	l := lay(sheet)
	rows, columns := draw.Perm(l.rows), draw.Perm(l.columns)
	if draw.IntN(3) > 0 {
		rows, columns = rows[:min(len(rows), 2+draw.IntN(4))], columns[:min(len(columns), 2+draw.IntN(4))]
	}
	var places []api.Mark
	for range draw.IntN(most + 1) {
		at := api.Mark{Row: rows[draw.IntN(len(rows))], Column: columns[draw.IntN(len(columns))]}
		if !slices.Contains(places, at) {
			places = append(places, at)
		}
	}
	return places
}

// part draws a part of some places.
func part(draw *rand.Rand, places []api.Mark) []api.Mark {
	return slices.DeleteFunc(slices.Clone(places), func(api.Mark) bool { return draw.IntN(2) == 0 })
}

// other draws another byte than that at a place of a sheet, but not `?`.
func other(draw *rand.Rand, sheet string, at api.Mark) byte {
	value := lay(sheet).values[at]
	return alphabet[(value+1+draw.IntN(93))%94]
}
