package book_test

import (
	"fmt"
	"math"
	"math/rand/v2"
	"slices"
	"strings"
	"testing"

	"shellac/api"
	"shellac/book"
)

// same returns whether two bars are the same; nil and empty lists are.
func same(a, b api.Bar) bool { return fmt.Sprint(a) == fmt.Sprint(b) }

// answers returns all that the functions say of texts, a bar and two sheets, as one text.
func answers(texts []string, x api.Bar, a, b string) string {
	sheet, e := book.Write(texts)
	read, f := book.Read(a)
	mended, g := book.Mend(a)
	left, h := book.Left(a)
	n, i := book.Fewest(a)
	found, j := book.Which(a)
	at, right, k := book.Wrong(a)
	joined, l := book.Join(a, b)
	said, after, m := book.Replay(x, a)
	return fmt.Sprintf("%q %d; %q %d; %q %d; %v %d; %d %d; %v %d; %v %q %d; %q %d; %q %v %d", sheet, e, read, f, mended, g, left, h, n, i, found, j, at, right, k, joined, l, said, after, m)
}

// P1: every function returns, whatever it is given.
func TestAnyArguments(t *testing.T) {
	wild := api.Bar{Stand: api.Stand{Place: math.MaxInt, Credit: math.MinInt}, Box: api.Box{Wheel: api.Wheel{Round: math.MinInt, Notches: []int{math.MaxInt}, Coins: []int{0}}, Plays: -1}}
	sheets := append(noSheets(), firstBook, noTexts, ringed, sheetOf("?", 41, 32), sheetOf("~", 41, 32), summed("ab"))
	for i, a := range sheets {
		for _, x := range []api.Bar{barB(), {}, wild} {
			answers([]string{a}, x, a, sheets[(7*i)%len(sheets)])
		}
		answers(slices.Repeat([]string{a}, i), barB(), a, a)
	}
	draw := rand.New(rand.NewPCG(14, 1))
	for range 3000 {
		var text []byte
		for range draw.IntN(20) {
			text = append(text, "??? ab|~\n\n\n\x00\xff"[draw.IntN(13)])
		}
		answers([]string{string(text)}, barB(), string(text), string(text)+"\n")
	}
}

// P1: the greatest sheets are done in time, also ones of which nothing, or as much as can be, is restored.
func TestGreatestSheets(t *testing.T) {
	texts := slices.Repeat([]string{strings.Repeat("|~", api.MaxText/2)}, api.MaxTexts)
	sheet := written(t, texts)
	var stairs, cross []api.Mark
	for row := range 41 {
		for column := range 32 {
			if row == column || row == column+1 || row > 31 && column == 31 {
				stairs = append(stairs, mark(row, column))
			}
			if row == 20 || column == 20 {
				cross = append(cross, mark(row, column))
			}
		}
	}
	// as many marks as rows and columns, less one
	if len(stairs) != 72 || len(cross) != 72 {
		t.Fatalf("%d and %d marks are lost", len(stairs), len(cross))
	}
	for range 20 {
		checkMend(t, without(sheet, stairs...), sheet)
		checkMend(t, without(sheet, cross...), sheet)
	}
	for _, sheet := range []string{strings.Repeat("?", 5_000_000) + "\n", strings.Repeat("\n", 5_000_000), strings.Repeat("??\n", 5_000_000), strings.Repeat("?", 5_000_000)} {
		if _, e := book.Mend(sheet); e != api.ErrSheet {
			t.Errorf("Mend: %d", e)
		}
		if _, e := book.Write([]string{sheet}); e != api.ErrArg {
			t.Errorf("Write: %d", e)
		}
	}
	answers(texts, barB(), sheetOf("?", 41, 32), sheet)
}

// R3: nil and empty lists are the same.
func TestNilAndEmpty(t *testing.T) {
	if a, b := written(t, nil), written(t, []string{}); a != b || a != noTexts {
		t.Errorf("nil: %q; empty: %q", a, b)
	}
	empty := barB()
	empty.Tray.Presses = []api.TrayPress{}
	for _, sheet := range []string{firstBook, noTexts} {
		if a, b := answers(nil, barB(), sheet, sheet), answers([]string{}, empty, sheet, sheet); a != b {
			t.Errorf("nil: %s; empty: %s", a, b)
		}
	}
}

// roomy returns a copy of a list with memory behind it.
func roomy[T any](list []T) []T {
	return append(slices.Clone(list), make([]T, 2)...)[:len(list)]
}

// spoil writes over a list, and over the memory behind it.
func spoil[T any](list []T, by T) {
	list = list[:cap(list)]
	for i := range list {
		list[i] = by
	}
}

// R4: no argument is changed, nor the memory behind it, also if a result is changed.
func TestArgumentsStay(t *testing.T) {
	texts := roomy([]string{"coin 1", "press 3 0", "slug 2", "mark 0", "lose 1", "stand"})
	b := barB()
	b.Box.Found, b.Box.Slugs, b.Tray.Presses, b.Tray.Records = roomy(b.Box.Found), roomy(b.Box.Slugs), roomy(b.Tray.Presses), roomy(b.Tray.Records)
	whole := func() string {
		return fmt.Sprint(texts[:cap(texts)], b, b.Box.Found[:cap(b.Box.Found)], b.Box.Slugs[:cap(b.Box.Slugs)], b.Tray.Presses[:cap(b.Tray.Presses)], b.Tray.Records[:cap(b.Tray.Records)])
	}
	text := whole()
	said, after, e := book.Replay(b, written(t, texts))
	if e != api.OK || !slices.Equal(said, []string{"yes", "yes", "yes", "yes", "yes", "30 3"}) {
		t.Errorf("Replay = %q, %d", said, e)
	}
	spoil(said, "no")
	spoil(after.Box.Found, 7)
	spoil(after.Box.Slugs, 7)
	spoil(after.Box.Marked, 7)
	spoil(after.Box.Wheel.Coins, 7)
	spoil(after.Box.Wheel.Notches, 7)
	spoil(after.Tray.Presses, api.TrayPress{Side: 7})
	spoil(after.Tray.Records, api.TrayRecord{Front: 7})
	if then := whole(); then != text {
		t.Errorf("changed from %s to %s", text, then)
	}
}

// R4: a result is new memory each time.
func TestResultsAreNew(t *testing.T) {
	for range 2 {
		texts, _ := book.Read(firstBook)
		left := leftOn(t, ringed)
		found := whichOn(t, sheetOf("?", 2, 2))
		said, _, _ := book.Replay(barB(), written(t, []string{"coin 0"}))
		if !slices.Equal(texts, []string{"ab", "c"}) || len(left) != 4 || left[3] != mark(1, 1) || len(found) != 1 || found[0].Row > 1 || !slices.Equal(said, []string{"yes"}) {
			t.Errorf("Read = %q, Left = %v, Which = %v, Replay = %q", texts, left, found, said)
		}
		spoil(texts, "x")
		spoil(left, mark(7, 7))
		spoil(found, mark(7, 7))
		spoil(said, "x")
	}
}

// No state is kept: what was asked before changes no answer, but for the places of Which, any of which can be returned.
func TestNoState(t *testing.T) {
	a, b := answers([]string{"coin 1"}, barB(), firstBook, noTexts), answers(nil, barB(), noTexts, noTexts)
	if a == b {
		t.Errorf("two sheets answer the same: %s", a)
	}
	answers(nil, barB(), ringed, ringed)
	if again := answers([]string{"coin 1"}, barB(), firstBook, noTexts); again != a {
		t.Errorf("first %s, then %s", a, again)
	}
	if again := answers(nil, barB(), noTexts, noTexts); again != b {
		t.Errorf("first %s, then %s", b, again)
	}
}
