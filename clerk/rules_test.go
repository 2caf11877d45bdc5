package clerk_test

import (
	"fmt"
	"math"
	"slices"
	"strings"
	"testing"

	"shellac/api"
	"shellac/clerk"
)

// said returns all that is said of a bar and a script, as one text.
func said(b api.Bar, script []string) string {
	answers, after, e := clerk.Run(b, script)
	return fmt.Sprintf("%d; %q; %v; %d", clerk.Check(b), answers, after, e)
}

// eachLine are all lines with some numbers.
func eachLine(numbers ...int) []string {
	var lines []string
	for word, count := range counts {
		switch count {
		case 0:
			lines = append(lines, word)
		case 1:
			for _, n := range numbers {
				lines = append(lines, fmt.Sprint(word, " ", n))
			}
		case 2:
			for _, n := range numbers {
				for _, m := range numbers {
					lines = append(lines, fmt.Sprint(word, " ", n, m))
				}
			}
		}
	}
	slices.Sort(lines)
	return lines
}

// P1: every function returns, whatever it is given.
func TestAnyArguments(t *testing.T) {
	lines := append(eachLine(0, 1, -1, 999_999_999, -999_999_999, math.MaxInt, math.MinInt), noLines()...)
	for _, b := range validBars() {
		for script := range slices.Chunk(lines, api.MaxLines) {
			run(t, b, script...)
		}
	}
	for _, b := range invalidBars() {
		said(b, lines)
		said(b, lines[:api.MaxLines])
	}
	for _, n := range []int{0, 1, -1, math.MaxInt, math.MinInt} {
		for _, length := range []int{0, 1, 4, 5, 1000} {
			l := slices.Repeat([]int{n}, length)
			b := api.Bar{Box: api.Box{Wheel: api.Wheel{Round: n, Notches: l, Coins: l}, Found: l, Marked: l, Slugs: l, Plays: n, Skips: n}}
			b.Stand = api.Stand{Place: n, Credit: n}
			b.Tray = api.Tray{Records: make([]api.TrayRecord, length), At: n, Way: n, Step: n, Presses: make([]api.TrayPress, length)}
			said(b, lines)
			said(b, []string{"\x00\xff", strings.Repeat("1 ", 1000)})
		}
	}
}

// P1: the lines that take longest are answered in time, also for the widest bar.
func TestGreatestArguments(t *testing.T) {
	for _, line := range []string{"missing", "which", "can", "soonest", "cheapest 20", "latest 11 9999"} {
		run(t, widest(), slices.Repeat([]string{line}, api.MaxLines)...)
	}
}

// R3: nil and empty lists are the same.
func TestNilAndEmpty(t *testing.T) {
	empty := least()
	empty.Box = api.Box{Wheel: api.Wheel{Round: 1, Notches: []int{}, Coins: []int{}}, Found: []int{}, Marked: []int{}, Slugs: []int{}}
	empty.Tray.Presses = []api.TrayPress{}
	for _, script := range [][]string{nil, {}, eachLine(0, 1)} {
		for script := range slices.Chunk(append(script, "stand"), api.MaxLines) {
			if a, b := said(least(), script), said(empty, script); a != b {
				t.Errorf("of %q nil: %s; empty: %s", script, a, b)
			}
		}
	}
	if a, b := said(barB(), nil), said(barB(), []string{}); a != b {
		t.Errorf("nil: %s; empty: %s", a, b)
	}
}

// roomy returns a copy of a list with memory behind it.
func roomy[T any](list []T) []T {
	return append(slices.Clone(list), make([]T, 3)...)[:len(list)]
}

// spread returns a copy of a bar, all of whose lists have memory behind them.
func spread(b api.Bar) api.Bar {
	for _, l := range ints(&b) {
		*l = roomy(*l)
	}
	b.Tray.Records, b.Tray.Presses = roomy(b.Tray.Records), roomy(b.Tray.Presses)
	return b
}

// ints are all lists of numbers of a bar.
func ints(b *api.Bar) []*[]int {
	return []*[]int{&b.Box.Wheel.Notches, &b.Box.Wheel.Coins, &b.Box.Found, &b.Box.Marked, &b.Box.Slugs}
}

// whole is a text of a bar, with the memory behind its lists.
func whole(b api.Bar) string {
	text := fmt.Sprint(b)
	for _, l := range ints(&b) {
		text += fmt.Sprint((*l)[:cap(*l)])
	}
	return text + fmt.Sprint(b.Tray.Records[:cap(b.Tray.Records)], b.Tray.Presses[:cap(b.Tray.Presses)])
}

// spoil writes over all lists of a bar, and over the memory behind them.
func spoil(b api.Bar) {
	for _, l := range ints(&b) {
		overwrite(*l, 99)
	}
	overwrite(b.Tray.Records, api.TrayRecord{Front: 99, Back: 99})
	overwrite(b.Tray.Presses, api.TrayPress{Side: 99, Time: 99})
}

func overwrite[T any](list []T, with T) {
	list = list[:cap(list)]
	for i := range list {
		list[i] = with
	}
}

// R4, P12.2: neither the bar nor the script is changed, nor the memory behind them, also if the bar that is returned is.
func TestArgumentsStay(t *testing.T) {
	for _, c := range []condition{fresh, used, full} {
		for b, draw := range drawn(100, c) {
			script := roomy(draw.script(b, draw.IntN(api.MaxLines+1)))
			b = spread(b)
			bar, lines := whole(b), fmt.Sprintf("%q", script[:cap(script)])
			answers, after := run(t, b, script...)
			spoil(after)
			overwrite(answers, "spoiled")
			if now := whole(b); now != bar {
				t.Errorf("changed from %s to %s", bar, now)
			}
			if now := fmt.Sprintf("%q", script[:cap(script)]); now != lines {
				t.Errorf("changed from %s to %s", lines, now)
			}
		}
	}
}

// R4: the bar that is returned is new memory, also behind lines that change nothing; it stays as it is if the one that was given is changed.
func TestResultsAreNew(t *testing.T) {
	for _, script := range [][]string{nil, {"stand"}, {"coin 9"}, {"what"}, {"coin 0"}, {"coin 1", "press 0 9999", "lose 1"}, {"press 0 9999"}, {"skips 3"}} {
		for _, b := range validBars() {
			b = spread(b)
			_, after := run(t, b, script...)
			before := fmt.Sprint(after)
			spoil(b)
			if now := fmt.Sprint(after); now != before {
				t.Errorf("behind %q changed from %s to %s", script, before, now)
			}
		}
	}
}

// R4: no two lists of the bar that is returned share memory, even if those of the one that is given do.
func TestListsShareNothing(t *testing.T) {
	b := barB()
	same := []int{0, 0, 0}
	b.Box.Found, b.Box.Marked, b.Box.Slugs = same, same, same
	want := box([]int{1, 1, 0}, []int{0, 1, 0}, []int{0, 0, 1}, 3, 40, 3)
	after := checkTalk(t, b, "coin 0 = yes", "mark 1 = yes", "slug 2 = yes")
	checkBar(t, after, want)
	for i, l := range ints(&after) {
		before := *l
		others := fmt.Sprint(lists(after, i))
		overwrite(before, 77)
		if now := fmt.Sprint(lists(after, i)); now != others {
			t.Errorf("with the list %d changed from %s to %s", i, others, now)
		}
	}
}

// lists are all lists of numbers of a bar but one, with the memory behind them.
func lists(b api.Bar, but int) [][]int {
	var out [][]int
	for i, l := range ints(&b) {
		if i != but {
			out = append(out, (*l)[:cap(*l)])
		}
	}
	return out
}

// No state is kept: what was asked and done before changes no answer.
func TestNoState(t *testing.T) {
	script := []string{"coin 1", "press 3 0", "mark 2", "stand", "can", "missing", "end", "empty", "lose 2", "gives 0"}
	a, b := said(barB(), script), said(widest(), script)
	if a == b {
		t.Errorf("two bars answer the same: %s", a)
	}
	for range 3 {
		if again := said(barB(), script); again != a {
			t.Errorf("first %s, then %s", a, again)
		}
		if again := said(widest(), script); again != b {
			t.Errorf("first %s, then %s", b, again)
		}
	}
}

// R9, R8: numbers of answers are written as those of lines, also if they are below 0; words that are not listed are no lines.
func TestTexts(t *testing.T) {
	checkTalk(t, barB(), "at 0 = 0 1 -1", "stand = 0 0", "cash = 0 0 0", "coin 2 = yes", "stand = 25 3", "cash = 25 0 0", "can = 3")
	b := barB()
	b.Box.Plays, b.Box.Found = 9999, []int{12, 0, 0}
	checkTalk(t, b, "short = 9992", "cash = 60 0 0")
	for _, c := range []condition{fresh, used, full} {
		for b, draw := range drawn(60, c) {
			answers, _ := run(t, b, draw.script(b, api.MaxLines)...)
			for _, answer := range answers {
				if kindOf(answer) == "number" && !asNumbers.MatchString(answer) {
					t.Errorf("an answer is %q", answer)
				}
			}
		}
	}
	for _, word := range []string{"plays", "served", "steps", "arrange", "explain", "sum", "most", "least", "order", "wasted", "could", "now", "tell", "check", "run", "yes", "no", "none", "what", "start", "credit", "place"} {
		checkTalk(t, barB(), word+" = what", word+" 0 = what", word+" 0 0 = what")
	}
}
