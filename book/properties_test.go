package book_test

import (
	"math/rand/v2"
	"slices"
	"testing"

	"shellac/api"
	"shellac/book"
)

// P14.10 (byte for byte): Read of a book returns its texts; Mend returns the book itself; Left is empty, and Wrong is ErrNone.
func TestByteForByte(t *testing.T) {
	ends := 0
	eachBook(150, func(texts []string, _ string, _ *rand.Rand) {
		sheet := written(t, texts)
		checkRead(t, sheet, texts)
		checkMend(t, sheet, sheet)
		if left := leftOn(t, sheet); len(left) > 0 {
			t.Errorf("Left of %q = %v", sheet, left)
		}
		if at, right, e := book.Wrong(sheet); at != (api.Mark{}) || right != "" || e != api.ErrNone {
			t.Errorf("Wrong of %q = %v, %q, %d", sheet, at, right, e)
		}
		for _, text := range texts {
			if len(text) > 0 && (text[len(text)-1] == '|' || text[len(text)-1] == ' ') {
				ends++
			}
		}
	})
	if ends < 300 {
		t.Errorf("only %d texts end with a blank or an end", ends)
	}
}

// lines returns all places of a row and of a column; none of one that is below 0.
func lines(sheet string, row, column int) []api.Mark {
	var all []api.Mark
	for at := range lay(sheet).places() {
		if at.Row == row || at.Column == column {
			all = append(all, at)
		}
	}
	return all
}

// P14.11 (three marks): if at most three bytes of a book become `?`, Mend returns the book.
func TestThreeMarks(t *testing.T) {
	for _, sheet := range []string{firstBook, noTexts, bookOf(""), bookOf("", "|", " ")} {
		var all []api.Mark
		for at := range lay(sheet).places() {
			all = append(all, at)
		}
		for i, a := range all {
			for j, b := range all[:i+1] {
				for _, c := range all[:j+1] {
					checkMend(t, without(sheet, a, b, c), sheet)
				}
			}
		}
	}
	eachBook(150, func(texts []string, sheet string, draw *rand.Rand) {
		lost := without(sheet, drawPlaces(draw, sheet, 3)...)
		checkMend(t, lost, sheet)
		checkRead(t, lost, texts)
	})
}

// P14.11 (three marks): if all bytes of one row, or of one column, or of both become `?`, Mend returns the book.
func TestLostLines(t *testing.T) {
	each := func(sheet string, row, column int) {
		for _, lost := range [][]api.Mark{lines(sheet, row, -1), lines(sheet, -1, column), lines(sheet, row, column)} {
			checkMend(t, without(sheet, lost...), sheet)
		}
	}
	for _, sheet := range []string{firstBook, noTexts, bookOf(""), bookOf("", "|", " "), bookOf("abc", "~~~~", "|", "> @")} {
		l := lay(sheet)
		for row := range l.rows {
			for column := range l.columns {
				each(sheet, row, column)
			}
		}
	}
	eachBook(100, func(_ []string, sheet string, draw *rand.Rand) {
		l := lay(sheet)
		each(sheet, draw.IntN(l.rows), draw.IntN(l.columns))
		each(sheet, l.rows-1, l.columns-1)
	})
}

// P14.12 (any order): if some `?` of a book that would be restored are told, Left is the same; a place of Left has another one in its row, and one in its column.
func TestAnyOrder(t *testing.T) {
	toldSome, rings := 0, 0
	eachBook(200, func(_ []string, sheet string, draw *rand.Rand) {
		places := drawPlaces(draw, sheet, 30)
		lost := without(sheet, places...)
		left := leftOn(t, lost)
		for _, at := range left {
			if isAlone(left, at) {
				t.Errorf("Left of %q = %v, but %v is alone", lost, left, at)
			}
		}
		restored := slices.DeleteFunc(places, func(at api.Mark) bool { return slices.Contains(left, at) })
		for range 3 {
			by := part(draw, restored)
			if again := leftOn(t, told(lost, sheet, by...)); !slices.Equal(again, left) {
				t.Errorf("Left of %q = %v; with %v told: %v", lost, left, by, again)
			}
			if len(left) > 0 && len(by) > 0 {
				toldSome++
			}
		}
		if len(left) > 0 {
			rings++
		}
	})
	if toldSome < 200 || rings < 100 {
		t.Errorf("only %d times some are told, and on %d books some are left", toldSome, rings)
	}
}

// P14.13 (the fewest): if the bytes of a book are told at the places of Which, Mend returns the book; with one of them left out, it is ErrLost. Fewest is how many places Left has, less how many rows and columns they are in, and one more for each group of these that hangs together.
func TestTheFewest(t *testing.T) {
	several := 0
	eachBook(200, func(_ []string, sheet string, draw *rand.Rand) {
		lost := without(sheet, drawPlaces(draw, sheet, 40)...)
		found := whichOn(t, lost)
		checkMend(t, told(lost, sheet, found...), sheet)
		for i := range found {
			fewer := told(lost, sheet, slices.Delete(slices.Clone(found), i, i+1)...)
			if mended, e := book.Mend(fewer); mended != "" || e != api.ErrLost {
				t.Errorf("Mend of %q, which is %q without %v of %v, = %q, %d", fewer, lost, found[i], found, mended, e)
			}
		}
		if n, want := fewestOn(t, lost), byGroups(leftOn(t, lost)); n != want || n != len(found) {
			t.Errorf("Fewest of %q = %d, not %d; Which: %v", lost, n, want, found)
		}
		if len(found) > 1 {
			several++
		}
	})
	if several < 150 {
		t.Errorf("only on %d books several have to be found", several)
	}
}

// P14.14 (a wrong mark): if one byte of a book becomes another one (not `?`), Wrong returns its place, and the book.
func TestWrongMark(t *testing.T) {
	check := func(book string, at api.Mark, b byte) {
		t.Helper()
		checkWrong(t, with(book, b, at), at, book)
	}
	for _, sheet := range []string{firstBook, noTexts, bookOf("|"), bookOf("> @", "~")} {
		l := lay(sheet)
		for at := range l.places() {
			for i := range alphabet {
				if i != l.values[at] {
					check(sheet, at, alphabet[i])
				}
			}
		}
	}
	eachBook(200, func(_ []string, sheet string, draw *rand.Rand) {
		l := lay(sheet)
		at := mark(draw.IntN(l.rows), draw.IntN(l.columns))
		check(sheet, at, other(draw, sheet, at))
		corner := mark(l.rows-1, l.columns-1)
		check(sheet, corner, other(draw, sheet, corner))
	})
}

// checkWrong reports a sheet of which Wrong does not return a place and another sheet.
func checkWrong(t *testing.T, sheet string, want api.Mark, by string) {
	t.Helper()
	if at, right, e := book.Wrong(sheet); at != want || right != by || e != api.OK {
		t.Errorf("Wrong of %q = %v, %q, %d, not %v, %q", sheet, at, right, e, want, by)
	}
}

// P14.15 (two copies): if of two copies of a book bytes become `?`, but none in both, Join returns the book; in whichever order they come.
func TestTwoCopies(t *testing.T) {
	lost := 0
	eachBook(200, func(_ []string, sheet string, draw *rand.Rand) {
		places := drawPlaces(draw, sheet, 60)
		first := part(draw, places)
		second := slices.DeleteFunc(places, func(at api.Mark) bool { return slices.Contains(first, at) })
		a, b := without(sheet, first...), without(sheet, second...)
		for _, pair := range [][2]string{{a, b}, {b, a}} {
			if joined, e := book.Join(pair[0], pair[1]); joined != sheet || e != api.OK {
				t.Errorf("Join of %q and %q = %q, %d, not %q", pair[0], pair[1], joined, e, sheet)
			}
		}
		lost += min(len(first), len(second))
	})
	if lost < 2000 {
		t.Errorf("only %d marks are lost", lost)
	}
}
