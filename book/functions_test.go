package book_test

import (
	"math/rand/v2"
	"slices"
	"strings"
	"testing"

	"shellac/api"
	"shellac/book"
	"shellac/clerk"
)

// barB is the bar of the examples of the clerk's chapter.
func barB() api.Bar {
	w := api.Wheel{Round: 50, Notches: []int{10, 20, 25}, Coins: []int{5, 10, 25}}
	return api.Bar{
		Box:  api.Box{Wheel: w, Found: []int{0, 0, 0}, Marked: []int{0, 0, 0}, Slugs: []int{0, 0, 0}},
		Tray: api.Tray{Records: []api.TrayRecord{{Front: 100, Back: 90}, {Front: 120, Back: 80}, {Front: 60, Back: 70}}, Way: 1, Step: 5},
	}
}

// written returns the book of some texts, without an error.
func written(t *testing.T, texts []string) string {
	t.Helper()
	sheet, e := book.Write(texts)
	if e != api.OK {
		t.Fatalf("Write of %q: %d", texts, e)
	}
	return sheet
}

// checkRead reports a sheet of which not some texts are read.
func checkRead(t *testing.T, sheet string, want []string) {
	t.Helper()
	if texts, e := book.Read(sheet); !slices.Equal(texts, want) || e != api.OK {
		t.Errorf("Read of %q = %q, %d, not %q", sheet, texts, e, want)
	}
}

// checkMend reports a sheet that is not mended to another one.
func checkMend(t *testing.T, sheet, want string) {
	t.Helper()
	if mended, e := book.Mend(sheet); mended != want || e != api.OK {
		t.Errorf("Mend of %q = %q, %d, not %q", sheet, mended, e, want)
	}
}

// leftOn returns what is left of a sheet, without an error.
func leftOn(t *testing.T, sheet string) []api.Mark {
	t.Helper()
	left, e := book.Left(sheet)
	if e != api.OK {
		t.Errorf("Left of %q: %d", sheet, e)
	}
	return left
}

// fewestOn returns what Fewest says of a sheet, without an error.
func fewestOn(t *testing.T, sheet string) int {
	t.Helper()
	n, e := book.Fewest(sheet)
	if e != api.OK {
		t.Errorf("Fewest of %q: %d", sheet, e)
	}
	return n
}

// whichOn returns what Which says of a sheet, without an error.
func whichOn(t *testing.T, sheet string) []api.Mark {
	t.Helper()
	found, e := book.Which(sheet)
	if e != api.OK {
		t.Errorf("Which of %q: %d", sheet, e)
	}
	return found
}

// rightBooks are texts and their books.
var rightBooks = []struct {
	texts []string
	sheet string
}{
	{[]string{"ab", "c"}, firstBook},
	{nil, noTexts},
	{[]string{}, noTexts},
	// the width is 1, as without texts
	{[]string{""}, "|#\n#|\n"},
	{[]string{"", ""}, "|#\n|#\n&y\n"},
	// the sum is the end of a text, and a blank
	{[]string{"&"}, "&||\ny##\n"},
	{[]string{"#"}, "#| \n|# \n"},
	// ends and blanks in a text
	{[]string{"|"}, "||&\n##y\n"},
	{[]string{" "}, " |#\n #|\n"},
	{[]string{"| ", "~"}, "| |&\n~| $\n$##u\n"},
	// the bytes on both sides of the mark that cannot be read
	{[]string{">"}, ">|d\na#;\n"},
	{[]string{"@"}, "@|c\n`#<\n"},
}

// P14.1: the chapter's examples, and books whose sums are found by trying all bytes.
func TestWrite(t *testing.T) {
	for i, x := range rightBooks {
		if sheet, e := book.Write(x.texts); sheet != x.sheet || e != api.OK {
			t.Errorf("%d: Write of %q = %q, %d, not %q", i, x.texts, sheet, e, x.sheet)
		}
		if second := bookOf(x.texts...); second != x.sheet {
			t.Errorf("%d: the book of %q is %q, not %q", i, x.texts, second, x.sheet)
		}
	}
	for _, texts := range [][]string{{strings.Repeat("~", api.MaxText)}, slices.Repeat([]string{strings.Repeat("~", api.MaxText)}, api.MaxTexts), make([]string, api.MaxTexts), {alphabet[:30], alphabet[30:60], alphabet[60:90], alphabet[90:]}} {
		if sheet, want := written(t, texts), bookOf(texts...); sheet != want {
			t.Errorf("Write of %q = %q, not %q", texts, sheet, want)
		}
	}
	long := 0
	eachBook(150, func(texts []string, want string, _ *rand.Rand) {
		if sheet := written(t, texts); sheet != want || !lay(sheet).isRight() {
			t.Errorf("Write of %q = %q, not %q", texts, sheet, want)
		}
		long = max(long, len(want))
	})
	if most := (api.MaxTexts + 1) * (api.MaxText + 3); long < most {
		t.Errorf("the longest book has %d bytes, not %d", long, most)
	}
}

// P14.1: each byte that has a value, alone and between others; the sums go through all of them.
func TestEachByte(t *testing.T) {
	sums := map[byte]bool{}
	for i := range alphabet {
		for _, text := range []string{alphabet[i : i+1], "a" + alphabet[i:i+1] + "b"} {
			sheet := written(t, []string{text})
			if want := bookOf(text); sheet != want {
				t.Errorf("Write of %q = %q, not %q", text, sheet, want)
			}
			sums[sheet[len(text)+1]] = true
			checkRead(t, sheet, []string{text})
		}
	}
	if len(sums) != 94 {
		t.Errorf("%d sums", len(sums))
	}
}

// P14.2: books, and sheets that are no books: with more blanks than a book has, and without texts.
func TestRead(t *testing.T) {
	for _, x := range rightBooks {
		checkRead(t, x.sheet, x.texts)
	}
	long := strings.Repeat("a", api.MaxText)
	for _, x := range []struct {
		sheet string
		want  []string
	}{
		{"a??_\nc| @\n[A?!\n", []string{"ab", "c"}}, {"ab?_\nc| @\n[A#!\n", []string{"ab", "c"}}, {"????\nc| @\n[A#!\n", []string{"ab", "c"}}, {"a?|_\nc? @\n????\n", []string{"ab", "c"}},
		{"??\n", nil}, {"? \n", nil}, {"   \n", nil}, {strings.Repeat(" ", 32) + "\n", nil}, {strings.Repeat("?", 32) + "\n", nil},
		{summed("a|    "), []string{"a"}}, {summed("|    "), []string{""}}, {summed("a|  ", "bc| ", "   |"), []string{"a", "bc", "   "}},
		// the last one counts
		{summed("a|b|", "|| |", "||||", "|   "), []string{"a|b", "|| ", "|||", ""}},
		{summed(long+"|", long+"|"), []string{long, long}}, {summed("a|" + strings.Repeat(" ", 29)), []string{"a"}},
		// the sum is none of the text
		{summed("&|"), []string{"&"}}, {summed("&|  "), []string{"&"}}, {summed("#|"), []string{"#"}}, {without(summed("&|"), mark(0, 2)), []string{"&"}},
	} {
		checkRead(t, x.sheet, x.want)
	}
}

// P14.3: the chapter's example, sheets that are no books, and all places that can be restored.
func TestMend(t *testing.T) {
	checkMend(t, "a??_\nc| @\n[A?!\n", firstBook)
	for _, x := range rightBooks {
		checkMend(t, x.sheet, x.sheet)
	}
	for _, x := range []struct{ sheet, want string }{
		{"??\n", "  \n"}, {"? \n", "  \n"}, {" ?   \n", "     \n"}, {strings.Repeat("?", 32) + "\n", strings.Repeat(" ", 32) + "\n"},
		// no text is read on these
		{summed("ab", "cd"), summed("ab", "cd")}, {without(summed("ab", "cd"), mark(0, 0), mark(1, 1), mark(2, 2)), summed("ab", "cd")},
		// one after the other, along rows and columns
		{without(firstBook, mark(0, 0), mark(0, 1), mark(1, 1), mark(1, 2), mark(2, 2), mark(2, 3)), firstBook},
		{without(firstBook, mark(0, 0), mark(1, 0), mark(1, 1), mark(2, 1)), firstBook},
		// the bytes on both sides of the mark that cannot be read, and the least and the greatest one
		{without(bookOf("@"), mark(0, 0)), bookOf("@")}, {without(bookOf(">"), mark(0, 0)), bookOf(">")}, {without(bookOf(" "), mark(0, 0)), bookOf(" ")}, {without(bookOf("~"), mark(0, 0)), bookOf("~")},
	} {
		checkMend(t, x.sheet, x.want)
	}
}

// P14.3: on small sheets, also ones that are not right, Mend returns the only right sheet that there is, all bytes tried.
func TestMendTriesAll(t *testing.T) {
	draw := rand.New(rand.NewPCG(14, 3))
	mended, clashes := 0, 0
	for range 300 {
		sheet := bookOf(drawTexts(draw, size{2, 2})...)
		if draw.IntN(2) == 0 {
			at := mark(0, draw.IntN(2))
			sheet = with(sheet, other(draw, sheet, at), at)
		}
		sheet = without(sheet, drawPlaces(draw, sheet, 2)...)
		l := lay(sheet)
		// two marks are never left
		rights := tryAll(l, l.lost())
		got, e := book.Mend(sheet)
		switch {
		case len(rights) == 0:
			clashes++
			if got != "" || e != api.ErrClash {
				t.Errorf("Mend of %q = %q, %d, but no sheet is right", sheet, got, e)
			}
		case len(rights) > 1 || got != rights[0] || e != api.OK:
			t.Errorf("Mend of %q = %q, %d; right are %q", sheet, got, e, rights)
		default:
			mended++
		}
	}
	if mended < 100 || clashes < 100 {
		t.Errorf("only %d sheets are mended, and %d clash", mended, clashes)
	}
}

// tryAll returns all right sheets with any values at some places.
func tryAll(l laid, places []api.Mark) []string {
	if len(places) == 0 {
		if l.isRight() {
			return []string{l.sheet()}
		}
		return nil
	}
	var rights []string
	for value := range alphabet {
		l.values[places[0]] = value
		rights = append(rights, tryAll(l, places[1:])...)
	}
	delete(l.values, places[0])
	return rights
}

// P14.4, P14.5: the chapter's example, rings in several places, and what hangs on them.
func TestLeftFewest(t *testing.T) {
	ring := []api.Mark{mark(0, 0), mark(0, 1), mark(1, 0), mark(1, 1)}
	wide := bookOf("abcdef", "ghijkl", "mnopqr", "stuvwx")
	var all []api.Mark
	for at := range lay(wide).places() {
		all = append(all, at)
	}
	for i, x := range []struct {
		sheet  string
		left   []api.Mark
		fewest int
	}{
		{ringed, ring, 1}, {firstBook, nil, 0}, {noTexts, nil, 0}, {"a??_\nc| @\n[A?!\n", nil, 0}, {"??\n", nil, 0},
		// any bytes can stand around
		{"??ab\n??cd\nefgh\n", ring, 1}, {"abcd\nefgh\n", nil, 0}, {"a?cd\nefgh\n", nil, 0}, {"??\n??\n", ring, 1},
		// what hangs on a ring is restored
		{"???_\n?? @\n[A#!\n", ring, 1}, {"??|_\n?? @\n?A#!\n", []api.Mark{mark(0, 0), mark(0, 1), mark(1, 0), mark(1, 1)}, 1},
		// two rings, apart, with a common corner's row, and with a common side
		{without(wide, mark(0, 0), mark(0, 1), mark(1, 0), mark(1, 1), mark(2, 2), mark(2, 3), mark(3, 2), mark(3, 3)), []api.Mark{mark(0, 0), mark(0, 1), mark(1, 0), mark(1, 1), mark(2, 2), mark(2, 3), mark(3, 2), mark(3, 3)}, 2},
		{without(wide, mark(0, 0), mark(0, 1), mark(1, 0), mark(1, 1), mark(1, 2), mark(1, 3), mark(3, 2), mark(3, 3)), []api.Mark{mark(0, 0), mark(0, 1), mark(1, 0), mark(1, 1), mark(1, 2), mark(1, 3), mark(3, 2), mark(3, 3)}, 2},
		{without(wide, mark(0, 0), mark(0, 1), mark(1, 0), mark(1, 1), mark(2, 0), mark(2, 1)), []api.Mark{mark(0, 0), mark(0, 1), mark(1, 0), mark(1, 1), mark(2, 0), mark(2, 1)}, 2},
		// a mark that joins two rings stays, since it is alone in no row and no column
		{without(wide, mark(0, 0), mark(0, 1), mark(1, 0), mark(1, 1), mark(1, 2), mark(2, 2), mark(2, 3), mark(3, 2), mark(3, 3)), []api.Mark{mark(0, 0), mark(0, 1), mark(1, 0), mark(1, 1), mark(1, 2), mark(2, 2), mark(2, 3), mark(3, 2), mark(3, 3)}, 2},
		// a ring over three rows
		{without(wide, mark(0, 0), mark(0, 1), mark(1, 1), mark(1, 2), mark(2, 0), mark(2, 2)), []api.Mark{mark(0, 0), mark(0, 1), mark(1, 1), mark(1, 2), mark(2, 0), mark(2, 2)}, 1},
		// the last row and the last column count
		{without(wide, mark(3, 7), mark(4, 7), mark(3, 2), mark(4, 2)), []api.Mark{mark(3, 2), mark(3, 7), mark(4, 2), mark(4, 7)}, 1},
		{without(wide, all...), all, 5*8 - (5 + 8) + 1},
	} {
		if left := leftOn(t, x.sheet); !slices.Equal(left, x.left) {
			t.Errorf("%d: Left of %q = %v, not %v", i, x.sheet, left, x.left)
		}
		if n := fewestOn(t, x.sheet); n != x.fewest {
			t.Errorf("%d: Fewest of %q = %d, not %d", i, x.sheet, n, x.fewest)
		}
	}
	if n, most := fewestOn(t, strings.Repeat(strings.Repeat("?", 32)+"\n", 41)), 41*32-41-32+1; n != most {
		t.Errorf("Fewest of all marks = %d, not %d", n, most)
	}
}

// P14.4 to P14.6: all that is left, how few of it have to be found, and which, all sets of marks tried; on books, and on sheets with any bytes.
func TestAllSets(t *testing.T) {
	none, one, several, many := 0, 0, 0, 0
	eachBook(300, func(_ []string, sheet string, draw *rand.Rand) {
		most := []int{8, 14, 40}[draw.IntN(3)]
		sheet = without(sheet, drawPlaces(draw, sheet, most)...)
		if at := mark(draw.IntN(lay(sheet).rows), 0); draw.IntN(2) == 0 && !slices.Contains(lay(sheet).lost(), at) {
			sheet = with(sheet, other(draw, sheet, at), at)
		}
		want := leftOf(draw, lay(sheet).lost())
		left := leftOn(t, sheet)
		if !slices.Equal(left, want) {
			t.Errorf("Left of %q = %v, not %v", sheet, left, want)
		}
		fewest := fewestOf(draw, want)
		if n := fewestOn(t, sheet); n != fewest {
			t.Errorf("Fewest of %q = %d, not %d", sheet, n, fewest)
		}
		checkWhich(t, draw, sheet, want, fewest)
		switch {
		case fewest == 0:
			none++
		case fewest == 1:
			one++
		case len(want) > mostTried:
			many++
		default:
			several++
		}
	})
	if none < 100 || one < 50 || several < 30 || many < 50 {
		t.Errorf("only of %d sheets nothing is left, of %d one mark has to be found, of %d several, and of %d very many are left", none, one, several, many)
	}
}

// checkWhich reports places of Which that are not as many different places of what is left as they have to be, or that are not enough.
func checkWhich(t *testing.T, draw *rand.Rand, sheet string, left []api.Mark, fewest int) {
	t.Helper()
	found := whichOn(t, sheet)
	rest := slices.DeleteFunc(slices.Clone(left), func(at api.Mark) bool { return slices.Contains(found, at) })
	if len(found) != fewest || len(rest) != len(left)-fewest || len(leftOf(draw, rest)) > 0 {
		t.Errorf("Which of %q = %v; left are %v, of which %d have to be found", sheet, found, left, fewest)
	}
	// any bytes can stand there
	if left := leftOn(t, with(sheet, alphabet[draw.IntN(94)], found...)); len(left) > 0 {
		t.Errorf("with %v on %q, %v is left", found, sheet, left)
	}
}

// P14.6: the places of Which on the chapter's example, and where nothing is left.
func TestWhich(t *testing.T) {
	if found := whichOn(t, ringed); len(found) != 1 || found[0].Row > 1 || found[0].Column > 1 {
		t.Errorf("Which of %q = %v", ringed, found)
	}
	for _, sheet := range []string{firstBook, noTexts, "??\n", "a??_\nc| @\n[A?!\n", "abc\ndef\n"} {
		if found := whichOn(t, sheet); len(found) > 0 {
			t.Errorf("Which of %q = %v", sheet, found)
		}
	}
}

// P14.7: the chapter's example, wrong sums, and sheets that are no books.
func TestWrong(t *testing.T) {
	for i, x := range []struct {
		right string
		at    api.Mark
		wrong byte
	}{
		{firstBook, mark(1, 0), 'd'}, {firstBook, mark(0, 0), 'b'}, {firstBook, mark(0, 3), ' '}, {firstBook, mark(2, 0), '~'}, {firstBook, mark(2, 3), 'x'}, {firstBook, mark(1, 2), '|'}, {firstBook, mark(0, 2), ' '},
		{noTexts, mark(0, 0), '!'}, {noTexts, mark(0, 1), '~'}, {summed("ab", "cd"), mark(1, 1), '>'}, {summed("a@", "c>"), mark(0, 1), '>'}, {summed("a@", "c>"), mark(1, 1), '@'},
	} {
		sheet := with(x.right, x.wrong, x.at)
		if at, right, e := book.Wrong(sheet); at != x.at || right != x.right || e != api.OK {
			t.Errorf("%d: Wrong of %q = %v, %q, %d, not %v, %q", i, sheet, at, right, e, x.at, x.right)
		}
	}
	// three marks are wrong, but it could be a single one where their row and their column cross
	sheet := with(with(with(firstBook, 'b', mark(0, 0)), 'a', mark(0, 1)), '}', mark(1, 1))
	want := with(sheet, 'b', mark(1, 0))
	if at, right, e := book.Wrong(sheet); at != mark(1, 0) || right != want || !lay(right).isRight() || e != api.OK {
		t.Errorf("Wrong of %q = %v, %q, %d, not %q", sheet, at, right, e, want)
	}
}

// P14.8: the chapter's example, marks that are lost in both, and sheets that are not right.
func TestJoin(t *testing.T) {
	for i, x := range []struct{ a, b, want string }{
		{ringed, "ab?_\nc??@\n[A#!\n", "ab|_\nc? @\n[A#!\n"},
		{firstBook, firstBook, firstBook}, {ringed, firstBook, firstBook}, {ringed, ringed, ringed}, {noTexts, "??\n", noTexts}, {"??\n", "??\n", "??\n"}, {"a?\n", "?b\n", "ab\n"}, {"?b\nc?\n", "ab\n??\n", "ab\nc?\n"},
		// nothing is restored
		{"a?|_\nc| @\n[A#!\n", "a?|_\nc| @\n[A#!\n", "a?|_\nc| @\n[A#!\n"},
	} {
		for _, pair := range [][2]string{{x.a, x.b}, {x.b, x.a}} {
			if joined, e := book.Join(pair[0], pair[1]); joined != x.want || e != api.OK {
				t.Errorf("%d: Join of %q and %q = %q, %d, not %q", i, pair[0], pair[1], joined, e, x.want)
			}
		}
	}
}

// P14.9: what a clerk answers to the texts of a sheet, and the bar then.
func TestReplay(t *testing.T) {
	b := barB()
	for _, texts := range [][]string{
		nil, {""}, {"coin 1", "stand"}, {"coin 1", "press 3 0", "stand", "end"}, {"press 3 0", "gives 1", "sing", " coin 1", "coin 1 ", "coin 1|", "|", "coin 2"}, slices.Repeat([]string{"coin 0"}, api.MaxTexts),
	} {
		sheet := written(t, texts)
		answers, after, e := clerk.Run(b, texts)
		again, then, f := book.Replay(b, sheet)
		if !slices.Equal(again, answers) || !same(then, after) || e != api.OK || f != api.OK {
			t.Errorf("Replay of %q = %q, %v, %d, not %q, %v, %d", texts, again, then, f, answers, after, e)
		}
	}
	answers, after, e := book.Replay(b, without(written(t, []string{"coin 1", "stand"}), mark(0, 0), mark(0, 5), mark(1, 0)))
	if !slices.Equal(answers, []string{"yes", "10 1"}) || after.Stand != (api.Stand{Place: 10, Credit: 1}) || !slices.Equal(after.Box.Found, []int{0, 1, 0}) || e != api.OK {
		t.Errorf("Replay = %q, %v, %d", answers, after, e)
	}
}
