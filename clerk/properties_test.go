package clerk_test

import (
	"fmt"
	"slices"
	"strconv"
	"strings"
	"testing"

	"shellac/api"
)

// eachDrawn does something with drawn bars of all conditions, and with a script for each.
func eachDrawn(count int, do func(b api.Bar, script []string, draw drawer)) {
	for _, c := range []condition{fresh, used, full} {
		for b, draw := range drawn(count, c) {
			do(b, draw.script(b, draw.IntN(api.MaxLines+1)), draw)
		}
	}
}

// P12.3 (halves): if a script is cut in two, and the second part is given to the bar behind the first one, the answers are the same, and so is the bar.
func TestHalves(t *testing.T) {
	eachDrawn(100, func(b api.Bar, script []string, draw drawer) {
		answers, after := run(t, b, script...)
		cut := draw.IntN(len(script) + 1)
		first, between := run(t, b, script[:cut]...)
		second, end := run(t, between, script[cut:]...)
		if !slices.Equal(slices.Concat(first, second), answers) || !same(end, after) {
			t.Errorf("of %v, %q = %q, %v; cut behind %d %q, %q, %v", b, script, answers, after, cut, first, second, end)
		}
	})
}

// P12.4 (what changes): without the lines that are answered `no`, `none` or `what`, and those that ask, the bar behind the script is the same.
func TestWhatChanges(t *testing.T) {
	without := 0
	eachDrawn(150, func(b api.Bar, script []string, _ drawer) {
		answers, after := run(t, b, script...)
		var done []string
		for i, line := range script {
			if answers[i] == "yes" {
				done = append(done, line)
			}
		}
		without += len(script) - len(done)
		again, end := run(t, b, done...)
		if slices.ContainsFunc(again, func(answer string) bool { return answer != "yes" }) {
			t.Errorf("of %v, %q alone = %q", b, done, again)
		}
		checkBar(t, end, after)
		if len(done) == 0 {
			checkBar(t, after, b)
		}
	})
	if without < 3000 {
		t.Errorf("only %d lines change nothing", without)
	}
}

// P12.5 (what is asked): each line that asks is answered as the functions of the lower layers say of the bar that there is then.
func TestWhatIsAsked(t *testing.T) {
	eachDrawn(40, func(b api.Bar, script []string, draw drawer) {
		script = script[:min(len(script), api.MaxLines/2)]
		for range api.MaxLines / 2 {
			script = slices.Insert(script, draw.IntN(len(script)+1), draw.question(b))
		}
		answers, _ := run(t, b, script...)
		for i, line := range script {
			word, numbers := parts(line)
			if word == "" || changes(word) {
				continue
			}
			_, then := run(t, b, script[:i]...)
			if want := asked(then, word, numbers); answers[i] != want {
				t.Errorf("of %v, %q = %q, not %q", then, line, answers[i], want)
			}
		}
	})
}

// owed returns the Plays of a box less the presses of the tray and the Credit.
func owed(b api.Bar) int { return b.Box.Plays - len(b.Tray.Presses) - b.Stand.Credit }

// P12.6 (what was paid): no line but `empty` changes the Plays less the presses and the Credit.
func TestWhatWasPaid(t *testing.T) {
	paid, presses := 0, 0
	eachDrawn(100, func(b api.Bar, script []string, _ drawer) {
		for _, line := range script {
			answers, after := run(t, b, line)
			switch {
			case line == "empty" && answers[0] == "yes":
				if after.Box.Plays != 0 {
					t.Errorf("behind %q of %v the plays are %d", line, b, after.Box.Plays)
				}
			case owed(after) != owed(b):
				t.Errorf("%q changes %v to %v", line, b, after)
			}
			paid += max(0, after.Box.Plays-b.Box.Plays)
			presses += len(after.Tray.Presses) - len(b.Tray.Presses)
			b = after
		}
	})
	if paid < 500 || presses < 300 {
		t.Errorf("only %d plays and %d presses", paid, presses)
	}
}

// P12.7 (nothing is missing): if a bar with an empty box, whose stand is the beginning, is given lines, but no `lose`, `skips` and `empty`, nothing is missing, and the box can have bought the Plays.
func TestNothingIsMissing(t *testing.T) {
	plays := 0
	for b, draw := range drawn(300, fresh) {
		b.Box.Skips = draw.IntN(3)
		script := slices.DeleteFunc(draw.script(b, api.MaxLines-2), func(line string) bool {
			word, _ := parts(line)
			return word == "lose" || word == "skips" || word == "empty"
		})
		answers, after := run(t, b, append(script, "missing", "can")...)
		missing, can := answers[len(script)], answers[len(script)+1]
		if missing != "0" || !slices.Contains(strings.Fields(can), strconv.Itoa(after.Box.Plays)) {
			t.Errorf("of %v, %q, missing = %q, can = %q; the plays are %d", b, script, missing, can, after.Box.Plays)
		}
		plays += after.Box.Plays
	}
	if plays < 1000 {
		t.Errorf("only %d plays", plays)
	}
}

// cash returns the three numbers of an answer to `cash`.
func cash(t *testing.T, b api.Bar) (takings, house, slugs int) {
	t.Helper()
	answers, _ := run(t, b, "cash")
	if n, e := fmt.Sscan(answers[0], &takings, &house, &slugs); n != 3 || e != nil {
		t.Errorf("cash of %v = %q", b, answers[0])
	}
	return takings, house, slugs
}

// P12.8 (lost and found): a `lose` that is answered `yes` undoes what a `coin` did to Found; behind it, `cash` has less takings by the worth of the coin, and the rest the same.
func TestLostAndFound(t *testing.T) {
	lost, undone := 0, 0
	eachDrawn(150, func(b api.Bar, script []string, draw drawer) {
		_, b = run(t, b, script...)
		kind := draw.IntN(len(b.Box.Wheel.Coins))
		lose := fmt.Sprint("lose ", kind)
		if answers, after := run(t, b, lose); answers[0] == "yes" {
			lost++
			takings, house, slugs := cash(t, b)
			left, houseThen, slugsThen := cash(t, after)
			if left != takings-b.Box.Wheel.Coins[kind] || houseThen != house || slugsThen != slugs {
				t.Errorf("%q of %v: cash is %d %d %d, then %d %d %d", lose, b, takings, house, slugs, left, houseThen, slugsThen)
			}
			checkBar(t, with(after, func(x *api.Bar) { x.Box.Found[kind]++ }), b)
		}
		answers, after := run(t, b, fmt.Sprint("coin ", kind), lose)
		if answers[0] != "yes" {
			return
		}
		undone++
		if answers[1] != "yes" || !slices.Equal(after.Box.Found, b.Box.Found) {
			t.Errorf("of %v, a coin of the kind %d that is lost = %q, %v", b, kind, answers, after)
		}
	})
	if lost < 100 || undone < 100 {
		t.Errorf("only %d coins are lost, %d behind one that was put in", lost, undone)
	}
}

// P12.9 (emptied): behind an `empty` that is answered `yes`, `cash` is answered `0 0 0`, `missing` `0`, and `short` `0`.
func TestEmptied(t *testing.T) {
	emptied, full := 0, 0
	eachDrawn(300, func(b api.Bar, script []string, draw drawer) {
		_, b = run(t, b, script...)
		if draw.IntN(3) > 0 {
			b.Stand = api.Stand{}
		}
		answers, after := run(t, b, "empty", "cash", "missing", "short")
		if answers[0] != "yes" {
			if b.Stand == (api.Stand{}) {
				t.Errorf("of %v, empty = %q", b, answers[0])
			}
			checkBar(t, after, b)
			return
		}
		emptied++
		if b.Box.Plays > 0 {
			full++
		}
		if !slices.Equal(answers[1:], []string{"0 0 0", "0", "0"}) {
			t.Errorf("of %v, behind empty: %q", b, answers[1:])
		}
	})
	if emptied < 300 || full < 200 {
		t.Errorf("only %d boxes are emptied, %d of which had plays", emptied, full)
	}
}
