package book_test

import (
	"math/rand/v2"
	"slices"
	"strings"
	"testing"

	"shellac/api"
	"shellac/book"
)

// sheetOf returns a sheet of so many rows and columns of one byte.
func sheetOf(b string, rows, columns int) string {
	return strings.Repeat(strings.Repeat(b, columns)+"\n", rows)
}

// noSheets are strings that are no sheets.
func noSheets() []string {
	l := []string{
		"", "\n", "\n\n", " ", "  ", "?", "ab", " \n", "?\n", " \n \n", "a\nb\n", "ab|_\nc| @\n[A#!", "ab|_\nc| @\n[A#!\n ", "ab|_\nc| @\n[A#!\n\n", "\nab|_\nc| @\n[A#!\n", "ab|_\n\nc| @\n[A#!\n", "  \n\n", "\n  \n",
		// rows that are longer or shorter
		"  \n   \n", "   \n  \n", "ab|_\nc| @\n[A#\n", "ab|\nc| @\n[A#!\n", "ab|_\nc|@\n[A#!\n", "ab|_\nc| @ \n[A#!\n", "??\n???\n", "  \n \n",
		// too long or too many ones
		sheetOf(" ", 1, 33), sheetOf("?", 2, 33), sheetOf("a", 42, 2), sheetOf(" ", 42, 32), sheetOf("?", 42, 2), sheetOf(" ", 41, 33), sheetOf(" ", 1, 100000), sheetOf(" ", 100000, 2), sheetOf(" ", 1000, 0), sheetOf(" ", 41, 2) + "\n", sheetOf(" ", 1, 31) + sheetOf(" ", 1, 33),
		// other bytes
		"é\n", "a\u2028\n", "\xff\xfe\n", "ab|_\r\nc| @\r\n[A#!\r\n", "a\tb\n", "\x00\x00\n", " \x7f\n", "\x1f \n",
	}
	for b := range 256 {
		if (b < ' ' || b > '~') && b != '\n' {
			l = append(l, with(firstBook, byte(b), mark(b%3, b%4)), with(noTexts, byte(b), mark(0, b%2)))
		}
	}
	return l
}

// answer is the error of a function, and whether all its other results are zero values.
type answer struct {
	e    api.Errno
	zero bool
}

// ask asks all functions of a sheet; Join of it as both copies, Replay with a bar.
func ask(sheet string, x api.Bar) map[string]answer {
	texts, e := book.Read(sheet)
	mended, f := book.Mend(sheet)
	left, g := book.Left(sheet)
	n, h := book.Fewest(sheet)
	found, i := book.Which(sheet)
	at, right, j := book.Wrong(sheet)
	joined, k := book.Join(sheet, sheet)
	answers, after, l := book.Replay(x, sheet)
	return map[string]answer{
		"Read": {e, len(texts) == 0}, "Mend": {f, mended == ""}, "Left": {g, len(left) == 0}, "Fewest": {h, n == 0}, "Which": {i, len(found) == 0},
		"Wrong": {j, at == api.Mark{} && right == ""}, "Join": {k, joined == ""}, "Replay": {l, len(answers) == 0 && same(after, api.Bar{})},
	}
}

// checkErrors reports functions that do not answer the error that is named for them, and nothing else, or that answer one though none is named.
func checkErrors(t *testing.T, sheet string, x api.Bar, want map[string]api.Errno) {
	t.Helper()
	for name, a := range ask(sheet, x) {
		e, named := want[name]
		if a.e != e || named && !a.zero {
			t.Errorf("%s of %q: %d, zero: %t; not %d", name, sheet, a.e, a.zero, e)
		}
	}
}

// errorsOf names the errors of Mend, of Read and Replay, and of Wrong, for those that have one.
func errorsOf(mend, read, wrong api.Errno) map[string]api.Errno {
	all := map[string]api.Errno{"Mend": mend, "Read": read, "Replay": read, "Wrong": wrong}
	for name, e := range all {
		if e == api.OK {
			delete(all, name)
		}
	}
	return all
}

// R1, R2: each function says what is no sheet, also if the bar is not valid.
func TestNoSheets(t *testing.T) {
	want := map[string]api.Errno{}
	for name := range ask(firstBook, barB()) {
		want[name] = api.ErrSheet
	}
	for _, sheet := range noSheets() {
		checkErrors(t, sheet, barB(), want)
		checkErrors(t, sheet, api.Bar{}, want)
		for _, good := range []string{firstBook, noTexts, ringed, sheetOf("?", 41, 32)} {
			checkJoin(t, good, sheet, api.ErrSheet)
		}
	}
}

// checkJoin reports two copies to which Join, in whichever order, does not answer an error, and nothing else.
func checkJoin(t *testing.T, a, b string, want api.Errno) {
	t.Helper()
	for _, pair := range [][2]string{{a, b}, {b, a}} {
		if joined, e := book.Join(pair[0], pair[1]); joined != "" || e != want {
			t.Errorf("Join of %q and %q = %q, %d, not %d", pair[0], pair[1], joined, e, want)
		}
	}
}

// R7: sheets that are as long and as wide, or as short and as narrow, as they can be, and each byte that they can have.
func TestSheets(t *testing.T) {
	for _, sheet := range []string{sheetOf(" ", 41, 32), sheetOf(" ", 41, 2), sheetOf(" ", 1, 32), sheetOf(" ", 1, 2), sheetOf("?", 1, 2), sheetOf("?", 41, 32), sheetOf("a", 41, 32)} {
		for _, name := range []string{"Left", "Fewest", "Which", "Join"} {
			if a := ask(sheet, barB())[name]; a.e != api.OK {
				t.Errorf("%s of %q: %d", name, sheet, a.e)
			}
		}
		if a := ask(sheet, barB())["Mend"]; a.e == api.ErrSheet {
			t.Errorf("Mend of %q: %d", sheet, a.e)
		}
	}
	for b := byte(' '); b <= '~'; b++ {
		sheet := with(firstBook, b, mark(1, 1))
		if joined, e := book.Join(sheet, sheet); joined != sheet || e != api.OK {
			t.Errorf("Join of %q = %q, %d", sheet, joined, e)
		}
	}
}

// P14.1, R1, R2, R7: too many texts, also if they are none; then texts that are none, in whichever place; the limits themselves are kept.
func TestWriteErrors(t *testing.T) {
	check := func(texts []string, want api.Errno) {
		t.Helper()
		if sheet, e := book.Write(texts); e != want || (sheet == "") != (want != api.OK) {
			t.Errorf("Write of %q = %q, %d, not %d", texts, sheet, e, want)
		}
	}
	long := strings.Repeat("a", api.MaxText)
	for _, many := range []int{api.MaxTexts + 1, api.MaxTexts + 2, 1000} {
		check(make([]string, many), api.ErrMany)
		check(slices.Repeat([]string{"?"}, many), api.ErrMany)
		check(slices.Repeat([]string{long + "a"}, many), api.ErrMany)
		check(slices.Repeat([]string{long}, many), api.ErrMany)
	}
	for _, many := range []int{0, 1, api.MaxTexts} {
		check(make([]string, many), api.OK)
		check(slices.Repeat([]string{long}, many), api.OK)
	}
	bad := []string{long + "a", strings.Repeat(" ", 31), strings.Repeat("a", 100000), "?", "a?", "?a", "a?b", strings.Repeat("?", 30), "\n", "a\n", "a\tb", "\x00", "é", "\xff", "…"}
	for b := range 256 {
		if b < ' ' || b > '~' {
			bad = append(bad, string([]byte{'a', byte(b)}))
		}
	}
	for _, text := range bad {
		check([]string{text}, api.ErrArg)
		check([]string{"ab", "c", text}, api.ErrArg)
		check([]string{text, "ab"}, api.ErrArg)
		check(append(make([]string, api.MaxTexts-1), text), api.ErrArg)
	}
	for b := byte(' '); b <= '~'; b++ {
		if b != '?' {
			check([]string{string([]byte{b})}, api.OK)
		}
	}
}

// P14.2, P14.3, P14.7, P14.9, R1, R2: which errors come, and in which order, if a sheet has lost marks, wrong ones, and rows without a text.
func TestOrderOfErrors(t *testing.T) {
	bad := barB()
	bad.Stand.Credit = -1
	noText := summed("ab", "c|")
	wrong := with(firstBook, 'd', mark(1, 0))
	twoRows := with(with(firstBook, 'b', mark(0, 0)), 'd', mark(1, 0))
	for i, x := range []struct {
		sheet             string
		mend, read, wrong api.Errno
	}{
		{firstBook, api.OK, api.OK, api.ErrNone}, {noTexts, api.OK, api.OK, api.ErrNone}, {noText, api.OK, api.ErrRow, api.ErrNone},
		// a mark that is lost, but restored
		{without(firstBook, mark(0, 0)), api.OK, api.OK, api.ErrLost}, {"??\n", api.OK, api.OK, api.ErrLost}, {without(noText, mark(0, 0)), api.OK, api.ErrRow, api.ErrLost}, {without(noText, mark(2, 2)), api.OK, api.ErrRow, api.ErrLost},
		// one that is left, on a sheet with nothing else, with wrong marks, and without a text
		{ringed, api.ErrLost, api.ErrLost, api.ErrLost}, {with(ringed, 'x', mark(2, 3)), api.ErrLost, api.ErrLost, api.ErrLost}, {"??ab\n??cd\nefgh\n", api.ErrLost, api.ErrLost, api.ErrLost}, {sheetOf("?", 2, 2), api.ErrLost, api.ErrLost, api.ErrLost},
		// a wrong mark, and one that is lost in its row, or elsewhere
		{wrong, api.ErrClash, api.ErrClash, api.OK}, {without(wrong, mark(0, 0)), api.ErrClash, api.ErrClash, api.ErrLost}, {without(wrong, mark(1, 1)), api.ErrClash, api.ErrClash, api.ErrLost}, {without(wrong, mark(2, 0)), api.ErrClash, api.ErrClash, api.ErrLost}, {with(noText, 'x', mark(0, 0)), api.ErrClash, api.ErrClash, api.OK}, {"a \n", api.ErrClash, api.ErrClash, api.OK}, {"a?\n", api.ErrClash, api.ErrClash, api.ErrLost},
		// more wrong marks: in two rows, in two columns, in both, or in all
		{twoRows, api.ErrClash, api.ErrClash, api.ErrClash}, {with(with(firstBook, 'b', mark(0, 0)), 'd', mark(0, 1)), api.ErrClash, api.ErrClash, api.ErrClash}, {with(with(firstBook, 'b', mark(0, 0)), 'd', mark(1, 1)), api.ErrClash, api.ErrClash, api.ErrClash}, {sheetOf("a", 2, 2), api.ErrClash, api.ErrClash, api.ErrClash}, {sheetOf("!", 1, 2), api.ErrClash, api.ErrClash, api.ErrClash}, {without(twoRows, mark(2, 0)), api.ErrClash, api.ErrClash, api.ErrLost},
		// only columns are wrong, and only rows
		{"!~\n  \n", api.ErrClash, api.ErrClash, api.ErrClash}, {"!~\n", api.ErrClash, api.ErrClash, api.ErrClash}, {"! \n~ \n", api.ErrClash, api.ErrClash, api.ErrClash},
		{with(with(firstBook, '`', mark(0, 0)), 'c', mark(0, 1)), api.ErrClash, api.ErrClash, api.ErrClash}, {with(with(firstBook, 'b', mark(0, 0)), 'b', mark(1, 0)), api.ErrClash, api.ErrClash, api.ErrClash},
		// what is restored is not right along the other way
		{"?!\n  \n", api.ErrClash, api.ErrClash, api.ErrLost}, {"? \n! \n", api.ErrClash, api.ErrClash, api.ErrLost},
	} {
		checkErrors(t, x.sheet, barB(), errorsOf(x.mend, x.read, x.wrong))
		// the bar comes last
		read := x.read
		if read == api.OK {
			read = api.ErrBar
		}
		if answers, after, e := book.Replay(bad, x.sheet); len(answers) > 0 || !same(after, api.Bar{}) || e != read {
			t.Errorf("%d: Replay of %q with a bad bar = %q, %v, %d, not %d", i, x.sheet, answers, after, e, read)
		}
	}
}

// P14.2, P14.9, R2: rows that have no text; Mend and the others do not mind.
func TestErrRow(t *testing.T) {
	for _, begins := range [][]string{
		{"a"}, {" "}, {"ab"}, {"a|b"}, {"|a"}, {"||x "}, {"  "}, {"a| x"}, {"a|", "b "}, {"b ", "a|"}, {"ab|", "|  ", "   ", "c| "}, {strings.Repeat("a", 31)}, {"|" + strings.Repeat("|", 29) + "a"},
		// the sum is an end, but no end of a text
		{"#"}, {"# "}, {"  #"}, {"#  ", "a| "},
	} {
		checkErrors(t, summed(begins...), barB(), errorsOf(api.OK, api.ErrRow, api.ErrNone))
		last := mark(0, len(begins[0]))
		checkErrors(t, without(summed(begins...), last), barB(), errorsOf(api.OK, api.ErrRow, api.ErrLost))
	}
	if sheet := summed("# "); sheet[2] != '|' {
		t.Errorf("the sum of %q is no end", sheet)
	}
}

// P14.8, R1, R2: copies of other sizes, also if both have different bytes; copies that differ, in whichever place.
func TestJoinErrors(t *testing.T) {
	for _, pair := range [][2]string{
		{firstBook, noTexts}, {"  \n  \n", "  \n"}, {"   \n", "  \n"}, {"abc\n", "ab\n"}, {sheetOf("?", 2, 3), sheetOf("?", 3, 2)}, {sheetOf("?", 3, 2), sheetOf("?", 2, 2)}, {sheetOf("a", 2, 3), sheetOf("b", 3, 2)}, {sheetOf("?", 41, 32), sheetOf("?", 40, 32)}, {sheetOf("?", 41, 32), sheetOf("?", 41, 31)},
		// just as many bytes
		{sheetOf("?", 2, 5), sheetOf("?", 3, 3)}, {sheetOf("?", 3, 3), sheetOf("?", 4, 2)},
	} {
		checkJoin(t, pair[0], pair[1], api.ErrSheet)
	}
	for at := range lay(firstBook).places() {
		b := with(firstBook, '~', at)
		checkJoin(t, firstBook, b, api.ErrClash)
		checkJoin(t, without(firstBook, mark(0, 0), mark(2, 3), mark(1, 1)), with(b, '~', mark(1, 0), mark(0, 1)), api.ErrClash)
	}
	eachBook(100, func(_ []string, sheet string, draw *rand.Rand) {
		places := drawPlaces(draw, sheet, 3)
		if len(places) == 0 {
			return
		}
		b := without(sheet, places[1:]...)
		checkJoin(t, sheet, with(b, other(draw, sheet, places[0]), places[0]), api.ErrClash)
	})
}
