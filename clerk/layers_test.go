package clerk_test

import (
	"fmt"
	"testing"

	"shellac/api"
	"shellac/coins"
	"shellac/shares"
	"shellac/tray"
)

// This file tests the promises about this layer and lower ones together.

// P0.16 (the acts in the book): if a clerk of an emptied bar is given coins and presses, the stand behind them is that of coins.Run of all that were answered `yes`, a press as a selection, and the Plays of the box are the presses and the Credit.
func TestActsInBook(t *testing.T) {
	most := 0
	for b, draw := range drawn(400, fresh) {
		b.Tray.Presses = nil
		var script []string
		for range draw.IntN(api.MaxSeen + 1) {
			if draw.IntN(3) > 0 {
				script = append(script, fmt.Sprint(draw.word("coin", "mark", "slug"), draw.about(len(b.Box.Wheel.Coins))))
			} else {
				script = append(script, fmt.Sprint("press ", draw.about(2*len(b.Tray.Records)), draw.about(50)))
			}
		}
		answers, after := run(t, b, script...)
		var acts []int
		presses := 0
		for i, line := range script {
			switch word, numbers := parts(line); {
			case answers[i] != "yes":
			case word == "press":
				acts = append(acts, -1)
				presses++
			default:
				acts = append(acts, numbers[0])
			}
		}
		stand, made, e := coins.Run(b.Box.Wheel, b.Stand, acts)
		if stand != after.Stand || made != presses || e != api.OK {
			t.Errorf("of %v, %q the stand is %v; that of %v is %v with %d selections, %d", b, script, after.Stand, acts, stand, made, e)
		}
		if after.Box.Plays != presses+after.Stand.Credit || len(after.Tray.Presses) != presses {
			t.Errorf("of %v, %q there are %d presses and %v", b, script, presses, after)
		}
		most = max(most, presses)
	}
	if most < 4 {
		t.Errorf("at most %d presses", most)
	}
}

// drawContract draws a contract.
func drawContract(draw drawer) api.Share {
	s := api.Share{Loan: draw.IntN(100)}
	for range draw.IntN(api.MaxClauses + 1) {
		s.Clauses = append(s.Clauses, api.Clause{Kind: 1 + draw.IntN(5), Cents: draw.IntN(60), Part: draw.IntN(101), More: draw.IntN(101)})
	}
	return s
}

// P0.17 (the settled box): the first number that a clerk answers to `cash`, settled by a contract, is the split of shares.Box of the box that there is then.
func TestSettledBox(t *testing.T) {
	some := 0
	eachDrawn(80, func(b api.Bar, script []string, draw drawer) {
		_, then := run(t, b, script...)
		takings, _, _ := cash(t, then)
		s := drawContract(draw)
		week, e := shares.Week(s, takings)
		split, _, f := shares.Box(s, then.Box)
		if week != split || e != api.OK || f != api.OK {
			t.Errorf("Week of %v, %d = %v, %d; Box of %v = %v, %d", s, takings, week, e, then.Box, split, f)
		}
		if split.Owner > 0 {
			some++
		}
	})
	if some < 30 {
		t.Errorf("the owner gets something of only %d boxes", some)
	}
}

// P0.18 (what was pressed): a press that a clerk answers `yes` is the last one of the tray then, and at the time at which it is served (`wait`) the side that it asked for is played (`at`).
func TestWhatWasPressed(t *testing.T) {
	pressed, waited := 0, 0
	eachDrawn(100, func(b api.Bar, script []string, _ drawer) {
		for _, line := range script {
			answers, after := run(t, b, line)
			b = after
			word, numbers := parts(line)
			if word != "press" || answers[0] != "yes" {
				continue
			}
			pressed++
			last := len(b.Tray.Presses) - 1
			if p := b.Tray.Presses[last]; p != (api.TrayPress{Side: numbers[0], Time: numbers[1]}) {
				t.Errorf("behind %q the last press of %v is %v", line, b, p)
			}
			wait, e := tray.Wait(b.Tray, last)
			if e != api.OK {
				t.Fatalf("Wait of %v, %d: %d", b.Tray, last, e)
			}
			if wait > 0 {
				waited++
			}
			s, e := tray.Stand(b.Tray, numbers[1]+wait)
			if e != api.OK || s.Side != numbers[0] {
				t.Errorf("behind %q Stand of %v, %d = %v, %d", line, b.Tray, numbers[1]+wait, s, e)
			}
			checkTalk(t, b, fmt.Sprint("wait ", last, " = ", wait), fmt.Sprint("at ", numbers[1]+wait, " = ", s.At, s.Way, s.Side))
		}
	})
	if pressed < 200 || waited < 100 {
		t.Errorf("only %d presses, of which %d wait", pressed, waited)
	}
}
