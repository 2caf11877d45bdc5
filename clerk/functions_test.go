package clerk_test

import (
	"fmt"
	"slices"
	"strings"
	"testing"

	"shellac/api"
	"shellac/clerk"
)

// run returns the answers to some lines, and the bar behind them.
func run(t *testing.T, b api.Bar, script ...string) ([]string, api.Bar) {
	t.Helper()
	answers, after, e := clerk.Run(b, script)
	if e != api.OK || len(answers) != len(script) {
		t.Fatalf("Run of %v, %q = %q, %d", b, script, answers, e)
	}
	return answers, after
}

// checkTalk runs lines, each with the answer that is wanted behind ` = `, reports answers that are others, and returns the bar behind the last line.
func checkTalk(t *testing.T, b api.Bar, talk ...string) api.Bar {
	t.Helper()
	var script, want []string
	for _, text := range talk {
		line, answer, ok := strings.Cut(text, " = ")
		if !ok {
			t.Fatalf("no answer in %q", text)
		}
		script, want = append(script, line), append(want, answer)
	}
	answers, after := run(t, b, script...)
	if !slices.Equal(answers, want) {
		t.Errorf("Run of %v, %q = %q, not %q", b, script, answers, want)
	}
	return after
}

// checkBar reports a bar that is another one than that wanted.
func checkBar(t *testing.T, got, want api.Bar) {
	t.Helper()
	if !same(got, want) {
		t.Errorf("the bar is %v, not %v", got, want)
	}
}

// P12.2: the chapter's examples, row by row, and in one script.
func TestExamples(t *testing.T) {
	rows := [][]string{
		{"press 3 0 = no", "gives 1 = 1", "coin 1 = yes", "stand = 10 1"},
		{"press 3 0 = yes", "stand = 0 0", "end = 95", "press 4 10 = no"},
		{"slug 1 = yes", "mark 1 = yes", "stand = 20 2", "cash = 10 10 10", "can = 3"},
		{"press 4 10 = yes", "press 3 9 = no", "wait 1 = 0", "at 20 = 2 1 4"},
		{"lose 1 = yes", "missing = 5", "which = 0", "empty = no"},
		{"coin = what", "coin 01 = what", "coin 3 = no", "press 0 70 = yes", "empty = yes", "cash = 0 0 0"},
	}
	b := barB()
	for _, row := range rows {
		b = checkTalk(t, b, row...)
	}
	want := barB()
	want.Tray.Presses = []api.TrayPress{{Side: 3, Time: 0}, {Side: 4, Time: 10}, {Side: 0, Time: 70}}
	checkBar(t, b, want)
	checkBar(t, checkTalk(t, barB(), slices.Concat(rows...)...), want)
}

// box returns a bar with so many coins of each kind found, marked, and so many slugs.
func box(found, marked, slugs []int, plays, place, credit int) api.Bar {
	b := barB()
	b.Box.Found, b.Box.Marked, b.Box.Slugs, b.Box.Plays = found, marked, slugs, plays
	b.Stand = api.Stand{Place: place, Credit: credit}
	return b
}

// P12.2: what coins, marked coins and slugs do to the purses, the stand and the register, around the wheel, too.
func TestPut(t *testing.T) {
	none := []int{0, 0, 0}
	for _, x := range []struct {
		line string
		from api.Bar
		want api.Bar
	}{
		{"coin 0", barB(), box([]int{1, 0, 0}, none, none, 0, 5, 0)},
		{"coin 1", barB(), box([]int{0, 1, 0}, none, none, 1, 10, 1)},
		{"coin 2", barB(), box([]int{0, 0, 1}, none, none, 3, 25, 3)},
		{"mark 0", barB(), box([]int{1, 0, 0}, []int{1, 0, 0}, none, 0, 5, 0)},
		{"mark 1", barB(), box([]int{0, 1, 0}, []int{0, 1, 0}, none, 1, 10, 1)},
		{"mark 2", barB(), box([]int{0, 0, 1}, []int{0, 0, 1}, none, 3, 25, 3)},
		{"slug 0", barB(), box(none, none, []int{1, 0, 0}, 0, 5, 0)},
		{"slug 1", barB(), box(none, none, []int{0, 1, 0}, 1, 10, 1)},
		{"slug 2", barB(), box(none, none, []int{0, 0, 1}, 3, 25, 3)},
		// the place and the credit that there were
		{"coin 2", box(none, none, none, 7, 45, 4), box([]int{0, 0, 1}, none, none, 9, 20, 6)},
		{"mark 0", box(none, none, none, 7, 45, 4), box([]int{1, 0, 0}, []int{1, 0, 0}, none, 7, 0, 4)},
		{"slug 1", box(none, none, none, 7, 45, 4), box(none, none, []int{0, 1, 0}, 7, 5, 4)},
		// purses in which there is something
		{"coin 0", box([]int{1, 2, 3}, []int{1, 1, 0}, []int{0, 2, 1}, 0, 0, 0), box([]int{2, 2, 3}, []int{1, 1, 0}, []int{0, 2, 1}, 0, 5, 0)},
		{"mark 0", box([]int{1, 2, 3}, []int{1, 1, 0}, []int{0, 2, 1}, 0, 0, 0), box([]int{2, 2, 3}, []int{2, 1, 0}, []int{0, 2, 1}, 0, 5, 0)},
		{"slug 0", box([]int{1, 2, 3}, []int{1, 1, 0}, []int{0, 2, 1}, 0, 0, 0), box([]int{1, 2, 3}, []int{1, 1, 0}, []int{1, 2, 1}, 0, 5, 0)},
	} {
		checkBar(t, checkTalk(t, x.from, x.line+" = yes"), x.want)
	}
}

// checkRefused reports lines that are answered otherwise than `no`, or that change a bar nevertheless.
func checkRefused(t *testing.T, b api.Bar, lines ...string) {
	t.Helper()
	for _, line := range lines {
		checkBar(t, checkTalk(t, b, line+" = no"), b)
	}
}

// P12.2: kinds that are none are neither put in nor lost; -1 is not a selection either.
func TestKindsThatAreNone(t *testing.T) {
	bare := barB()
	bare.Box = emptied(api.Wheel{Round: 1})
	for _, word := range []string{"coin", "mark", "slug", "lose"} {
		for _, kind := range []string{"-1", "3", "-2", "4", "12", "999999999", "-999999999"} {
			checkRefused(t, barB(), word+" "+kind)
			checkRefused(t, box([]int{1, 1, 1}, []int{0, 0, 0}, []int{1, 1, 1}, 9, 30, 3), word+" "+kind)
		}
		checkRefused(t, bare, word+" 0", word+" -1", word+" 1")
	}
}

// P12.2, R7: as many coins and slugs as there can be, as much credit, and as many plays on the register, but not more.
func TestPutUpToLimits(t *testing.T) {
	none := []int{0, 0, 0}
	for _, x := range []struct{ found, slugs []int }{
		{[]int{11, 0, 0}, none}, {none, []int{11, 0, 0}}, {[]int{3, 4, 0}, []int{0, 2, 2}},
	} {
		b := box(x.found, none, x.slugs, 0, 0, 0)
		for _, word := range []string{"coin 0", "mark 0", "slug 0"} {
			after := checkTalk(t, b, word+" = yes")
			checkRefused(t, after, "coin 0", "mark 0", "slug 0", "coin 2", "mark 2", "slug 2")
		}
	}
	for _, word := range []string{"coin", "mark", "slug"} {
		checkTalk(t, box(none, none, none, 20, 0, 19), word+" 1 = yes", "stand = 10 20", word+" 0 = yes", word+" 1 = no", word+" 0 = no", "stand = 15 20")
		checkTalk(t, box(none, none, none, 20, 0, 17), word+" 2 = yes", "stand = 25 20")
		checkRefused(t, box(none, none, none, 20, 0, 18), word+" 2")
		checkRefused(t, box(none, none, none, 20, 0, 20), word+" 1", word+" 2")
		b := box(none, none, none, 9998, 0, 0)
		checkBar(t, checkTalk(t, b, word+" 0 = yes", "stand = 5 0"), with(checkTalk(t, barB(), word+" 0 = yes"), func(b *api.Bar) { b.Box.Plays = 9998 }))
		checkBar(t, checkTalk(t, b, word+" 1 = yes", "stand = 10 1"), with(checkTalk(t, barB(), word+" 1 = yes"), func(b *api.Bar) { b.Box.Plays = 9999 }))
		checkRefused(t, b, word+" 2")
	}
}

// P12.2: a press uses a play, lets the wheel go back, and is the last one of the tray; the box stays as it is.
func TestPress(t *testing.T) {
	none := []int{0, 0, 0}
	after := checkTalk(t, box([]int{1, 0, 0}, none, []int{0, 0, 1}, 7, 45, 2), "press 5 0 = yes", "stand = 0 1", "press 0 9999 = yes", "stand = 0 0")
	want := box([]int{1, 0, 0}, none, []int{0, 0, 1}, 7, 0, 0)
	want.Tray.Presses = []api.TrayPress{{Side: 5, Time: 0}, {Side: 0, Time: 9999}}
	checkBar(t, after, want)
	// without a credit, whatever the place is
	checkRefused(t, box(none, none, none, 7, 45, 0), "press 5 0")
	checkRefused(t, barB(), "press 5 0")
	// sides and times that are none
	paid := box(none, none, none, 7, 45, 20)
	checkRefused(t, paid, "press 6 0", "press -1 0", "press 0 -1", "press 0 10000", "press 999999999 0", "press 0 999999999", "press 0 -999999999")
	checkTalk(t, paid, "press 0 0 = yes", "press 5 9999 = yes")
}

// P12.2: no press of the tray has a later time, wherever it stands; one at the same time may be there. At most MaxPresses are.
func TestPressBehindOthers(t *testing.T) {
	b := box([]int{0, 0, 0}, []int{0, 0, 0}, []int{0, 0, 0}, 0, 0, 20)
	b.Tray.Presses = []api.TrayPress{{Side: 0, Time: 5}, {Side: 1, Time: 90}, {Side: 2, Time: 30}}
	checkRefused(t, b, "press 0 0", "press 1 30", "press 2 89", "press 3 31")
	after := checkTalk(t, b, "press 4 90 = yes", "press 4 90 = yes", "press 5 91 = yes", "press 0 90 = no")
	want := append(slices.Clone(b.Tray.Presses), api.TrayPress{Side: 4, Time: 90}, api.TrayPress{Side: 4, Time: 90}, api.TrayPress{Side: 5, Time: 91})
	if !slices.Equal(after.Tray.Presses, want) {
		t.Errorf("the presses are %v, not %v", after.Tray.Presses, want)
	}
	b.Tray.Presses = slices.Repeat([]api.TrayPress{{Side: 3, Time: 7}}, api.MaxPresses-1)
	checkRefused(t, checkTalk(t, b, "press 1 8 = yes"), "press 1 8", "press 1 9")
}

// P12.2: a coin that is lost is one less of those found, down to none, and to those that are marked; nothing else changes.
func TestLose(t *testing.T) {
	b := box([]int{2, 1, 1}, []int{1, 0, 1}, []int{0, 3, 0}, 9, 30, 3)
	checkBar(t, checkTalk(t, b, "lose 0 = yes"), box([]int{1, 1, 1}, []int{1, 0, 1}, []int{0, 3, 0}, 9, 30, 3))
	checkBar(t, checkTalk(t, b, "lose 0 = yes", "lose 0 = no", "lose 1 = yes", "lose 1 = no", "lose 2 = no"), box([]int{1, 0, 1}, []int{1, 0, 1}, []int{0, 3, 0}, 9, 30, 3))
	checkRefused(t, barB(), "lose 0", "lose 1", "lose 2")
}

// P12.2: the skips are the number, if it can be.
func TestSkips(t *testing.T) {
	b := box([]int{2, 1, 1}, []int{1, 0, 1}, []int{0, 3, 0}, 9, 30, 3)
	for _, skips := range []int{9, 0, 4} {
		b = with(checkTalk(t, b, fmt.Sprintf("skips %d = yes", skips)), func(after *api.Bar) {
			checkBar(t, *after, with(b, func(b *api.Bar) { b.Box.Skips = skips }))
		})
		checkRefused(t, b, "skips 10", "skips -1", "skips 999999999", "skips -999999999")
	}
	none := []int{0, 0, 0}
	checkTalk(t, box([]int{0, 0, 2}, none, none, 2, 0, 0), "missing = none", "skips 1 = yes", "missing = 0", "skips 0 = yes", "missing = none")
}

// P12.2: only if the stand is the beginning a box is emptied; its wheel and skips stay, and the tray.
func TestEmpty(t *testing.T) {
	b := box([]int{2, 1, 1}, []int{1, 0, 1}, []int{0, 3, 0}, 9, 0, 0)
	b.Box.Skips = 4
	b.Tray = trayT()
	want := with(b, func(b *api.Bar) {
		b.Box = emptied(wheelW())
		b.Box.Skips = 4
	})
	checkBar(t, checkTalk(t, b, "empty = yes"), want)
	checkBar(t, checkTalk(t, want, "empty = yes"), want)
	for _, s := range []api.Stand{{Place: 1}, {Place: 49}, {Credit: 1}, {Credit: 20}, {Place: 25, Credit: 3}} {
		b.Stand = s
		checkRefused(t, b, "empty")
	}
}

// P12.2: the stand, and what the wheel gives from there on, which does not turn it.
func TestAsksOfWheel(t *testing.T) {
	none := []int{0, 0, 0}
	checkTalk(t, barB(), "stand = 0 0", "gives 0 = 0", "gives 1 = 1", "gives 2 = 3", "gives 3 = no", "gives -1 = no", "stand = 0 0")
	checkTalk(t, box(none, none, none, 0, 20, 20), "stand = 20 20", "gives 0 = 1", "gives 1 = 1", "gives 2 = 1", "gives 0 = 1")
	checkTalk(t, box(none, none, none, 0, 49, 7), "stand = 49 7", "gives 0 = 0", "gives 1 = 0", "gives 2 = 2")
	checkTalk(t, box(none, none, none, 0, 20, 5), "cheapest 4 = 35", "cheapest 1 = 10", "cheapest 20 = 170", "cheapest 0 = no", "cheapest 21 = no", "cheapest -1 = no")
	bare := barB()
	bare.Box = emptied(api.Wheel{Round: 1})
	checkTalk(t, bare, "stand = 0 0", "gives 0 = no", "cheapest 1 = none", "cheapest 0 = no", "cheapest 21 = no")
}

// P12.2: what is asked of a tray, also of one without presses, and with numbers that it has not.
func TestAsksOfTray(t *testing.T) {
	b := barB()
	b.Tray = trayT()
	checkTalk(t, b, "wait 0 = 75", "wait 2 = 148", "wait 4 = 15", "wait 5 = no", "wait -1 = no", "longest = 2", "end = 415")
	checkTalk(t, b, "at 0 = 0 1 -1", "at 70 = 2 -1 -1", "at 100 = 1 -1 3", "at 265 = 1 1 -1", "at 9999 = 1 1 -1", "at 10000 = no", "at -1 = no")
	checkTalk(t, b, "latest 2 20 = 5", "latest 1 100 = none", "latest 6 100 = no", "latest -1 100 = no", "latest 2 -1 = no", "latest 2 10000 = no")
	checkTalk(t, barB(), "wait 0 = no", "wait -1 = no", "longest = none", "end = none", "soonest = none", "at 7 = 0 1 -1", "latest 2 20 = 15")
	b.Tray = api.Tray{
		Records: []api.TrayRecord{{Front: 10, Back: 20}, {Front: 30, Back: 40}},
		Way:     -1, Step: 60,
		Presses: []api.TrayPress{{Side: 3, Time: 0}},
	}
	checkTalk(t, b, "end = 100", "soonest = 40", "at 60 = 1 -1 3", "latest 3 9 = none", "latest 3 60 = 60")
}

// P12.2: what is asked of a box, also of one that is short, or cannot be explained.
func TestAsksOfBox(t *testing.T) {
	x := func(plays, skips int, slugs ...int) api.Bar {
		b := box([]int{0, 2, 1}, []int{0, 1, 0}, slugs, plays, 17, 9)
		b.Box.Skips = skips
		return b
	}
	checkTalk(t, x(6, 0, 0, 0, 0), "can = 3 4 5", "cash = 35 10 0", "missing = 5", "which = 0", "short = 1", "skipped = none")
	checkTalk(t, x(5, 0, 0, 0, 0), "missing = 0", "which = none", "short = 0", "skipped = 0")
	checkTalk(t, x(2, 0, 0, 0, 0), "missing = none", "which = none", "short = 0", "skipped = 1")
	checkTalk(t, x(2, 1, 0, 0, 0), "missing = 0", "which = none", "short = 0", "skipped = 1")
	checkTalk(t, x(2, 1, 0, 1, 0), "cash = 35 10 10")
	checkTalk(t, barB(), "can = 0", "cash = 0 0 0", "missing = 0", "which = none", "short = 0", "skipped = 0")
}

// noLines are texts that are no lines, some of which are nearly one.
func noLines() []string {
	l := []string{
		"", " ", "  ", "1", "0 coin", "what", "yes", "coins 1", "coi 1", "c", "Coin 1", "COIN 1", "shorter", "Press 1 1", "presses 1 1",
		"coin", "coin ", "coin  1", " coin 1", "coin 1 ", "coin 1 1", "coin 1  ", "coin1", "coin\t1", "coin 1\n", "coin\n1", "coin 1\r", "coin, 1", "coin-1", "coin\u00a01", "coin 1\x00",
		"mark", "mark 1 1", "slug", "slug 0 0", "lose", "lose 0 0", "skips", "skips 1 1", "empty 0", "empty ", " empty", "empty empty",
		"press", "press 1", "press 1 ", "press  1", "press 1  1", "press 1 1 ", "press 1 1 1", "press 1,1", "press x 1", "press 1 x", "press 01 1", "press 1 01",
		"stand 0", "stand ", "\nstand", "gives", "gives 0 0", "gives x", "cheapest", "cheapest 1 1", "cheapest 1.0", "wait", "wait 0 0", "longest 0", "end 1", "end\n",
		"at", "at 1 1", "at 1h", "latest", "latest 1", "latest 1 1 1", "soonest 1", "cash 0", "can 1", "missing 1", "which 0", "skipped 0", "short 0", "short -", "coin coin", "coin one",
	}
	for _, number := range []string{"01", "00", "-0", "-00", "-01", "+1", "+0", "--1", "-", "+", "0x1", "1_0", "1e1", "1.", ".1", "1a", "a", "1-", "1 -", "０", "١", "²", "1000000000", "-1000000000", "0000000001", "-0000000001", "9223372036854775808", "-9223372036854775809", "99999999999999999999"} {
		l = append(l, "coin "+number, "lose "+number, "skips "+number, "press "+number+" 0", "press 0 "+number, "at "+number, "latest 0 "+number, "latest "+number+" 0")
	}
	return l
}

// P12.2: what is no line is answered `what`, and changes nothing.
func TestNoLines(t *testing.T) {
	b := box([]int{2, 2, 2}, []int{1, 1, 1}, []int{1, 1, 1}, 9, 0, 9)
	for _, line := range noLines() {
		checkBar(t, checkTalk(t, b, line+" = what"), b)
	}
	for _, line := range []string{strings.Repeat(" ", 100_000), strings.Repeat("coin ", 100_000), "coin " + strings.Repeat("1", 100_000), "coin 1" + strings.Repeat(" ", 100_000)} {
		if answers, after := run(t, b, line); answers[0] != "what" || !same(b, after) {
			t.Errorf("%q ...: %q, %v", line[:10], answers, after)
		}
	}
}

// P12.2: numbers of nine digits, and of one, are numbers.
func TestNumbers(t *testing.T) {
	for _, number := range []string{"999999999", "-999999999", "100000000", "-100000000", "123456789", "-1", "-9", "-10"} {
		checkRefused(t, barB(), "coin "+number, "lose "+number, "skips "+number, "at "+number, "cheapest "+number, "gives "+number, "wait "+number, "latest 0 "+number, "latest "+number+" 0", "press 0 "+number)
	}
	checkTalk(t, barB(), "coin 0 = yes", "at 0 = 0 1 -1", "at 10 = 0 1 -1", "at 9999 = 0 1 -1", "skips 9 = yes")
}

// P12.2: one line after the other: each is answered as it is behind the one before; no lines at all change nothing.
func TestOneByOne(t *testing.T) {
	for _, script := range [][]string{nil, {}} {
		answers, after := run(t, barB(), script...)
		checkBar(t, after, barB())
		if len(answers) > 0 {
			t.Errorf("Run of no lines = %q", answers)
		}
	}
	after := checkTalk(t, barB(),
		"coin 2 = yes", "press 0 0 = yes", "coin 1 = yes", "press 5 0 = yes", "press 2 0 = yes", "stand = 0 1", "end = 300", "press 0 400 = yes", "empty = yes", "end = 505",
		"coin 0 = yes", "empty = no", "coin 0 = yes", "press 1 399 = no", "press 1 400 = yes", "cash = 10 0 0", "lose 0 = yes", "cash = 5 0 0", "missing = 5", "which = 0", "short = 1",
		"skips 1 = yes", "missing = 5", "empty = yes", "missing = 0", "stand = 0 0")
	want := barB()
	want.Box.Skips = 1
	want.Tray.Presses = []api.TrayPress{{Side: 0}, {Side: 5}, {Side: 2}, {Side: 0, Time: 400}, {Side: 1, Time: 400}}
	checkBar(t, after, want)
}

// P12.2: drawn scripts, as the second clerk answers them.
func TestSecondClerk(t *testing.T) {
	said := map[string]int{}
	for _, c := range []condition{fresh, used, full} {
		for b, draw := range drawn(400, c) {
			script := draw.script(b, draw.IntN(api.MaxLines+1))
			want, bar := runBy(b, script)
			answers, after := run(t, b, script...)
			if !slices.Equal(answers, want) {
				t.Errorf("Run of %v, %q = %q, not %q", b, script, answers, want)
			}
			checkBar(t, after, bar)
			for i, line := range script {
				word, _ := parts(line)
				said[word+" "+kindOf(answers[i])]++
			}
		}
	}
	for word := range counts {
		if changes(word) && (said[word+" yes"] < 20 || said[word+" no"] < 20) || !changes(word) && said[word+" number"] < 20 {
			t.Errorf("%s: %d times yes, %d times no, %d times a number", word, said[word+" yes"], said[word+" no"], said[word+" number"])
		}
	}
}

// kindOf returns an answer, and `number` for all numbers.
func kindOf(answer string) string {
	if slices.Contains([]string{"yes", "no", "none", "what"}, answer) {
		return answer
	}
	return "number"
}
