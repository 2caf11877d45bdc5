package book_test

import (
	"fmt"
	"math/rand/v2"
	"slices"
	"strconv"
	"testing"

	"shellac/api"
	"shellac/book"
	"shellac/clerk"
	"shellac/pulses"
)

// This file tests the promises about this layer and lower ones together.

// drawBar draws a bar with some coins in its box.
func drawBar(draw *rand.Rand) api.Bar {
	b := barB()
	b.Stand = api.Stand{Place: draw.IntN(50), Credit: draw.IntN(5)}
	if draw.IntN(3) == 0 {
		b.Stand = api.Stand{}
	}
	for range draw.IntN(4) {
		b.Box.Found[draw.IntN(3)]++
		b.Box.Slugs[draw.IntN(3)]++
	}
	b.Box.Plays = draw.IntN(10)
	for range draw.IntN(4) {
		b.Tray.Presses = append(b.Tray.Presses, api.TrayPress{Side: draw.IntN(6), Time: draw.IntN(50)})
	}
	return b
}

// drawScript draws lines of a clerk that can be kept in a book, some of which are none.
func drawScript(draw *rand.Rand) []string {
	words := []string{"coin 0", "coin 1", "coin 2", "mark 1", "slug 2", "lose 0", "lose 1", "skips 2", "empty", "stand", "gives 2", "cheapest 4", "wait 0", "longest", "end", "at 20", "latest 3 400", "soonest", "cash", "can", "missing", "skipped", "short", "sing", "", " stand", "coin 01", "coin  1", "|", "coin -1", "end|", "stand "}
	var script []string
	time := 50
	for range draw.IntN(api.MaxLines + 1) {
		if time += draw.IntN(40); draw.IntN(4) == 0 {
			script = append(script, fmt.Sprint("press ", draw.IntN(6), time-draw.IntN(2)*draw.IntN(60)))
			continue
		}
		script = append(script, words[draw.IntN(len(words))])
	}
	return script
}

// checkReplay reports a sheet that is not replayed to what a clerk says of a bar and lines; it returns how many of these were done.
func checkReplay(t *testing.T, b api.Bar, sheet string, script []string) int {
	t.Helper()
	answers, after, e := clerk.Run(b, script)
	again, then, f := book.Replay(b, sheet)
	if !slices.Equal(again, answers) || !same(then, after) || e != api.OK || f != api.OK {
		t.Errorf("Replay of %v, %q = %q, %v, %d; Run of %q = %q, %v, %d", b, sheet, again, then, f, script, answers, after, e)
	}
	return len(slices.DeleteFunc(slices.Clone(answers), func(answer string) bool { return answer != "yes" }))
}

// P14.16 (ten years): the lines of a clerk, kept in a book of which at most three marks cannot be read, are replayed to the same answers, and the same bar.
func TestTenYears(t *testing.T) {
	draw := rand.New(rand.NewPCG(14, 16))
	done := 0
	for range 100 {
		b, script := drawBar(draw), drawScript(draw)
		sheet := written(t, script)
		done += checkReplay(t, b, without(sheet, drawPlaces(draw, sheet, 3)...), script)
	}
	if done < 400 {
		t.Errorf("only %d lines are done", done)
	}
}

// P0.20 (the two copies): if two copies of the book of a clerk's lines lost marks, but none in both, what book.Join makes of them is replayed to the same answers, and the same bar.
func TestJoinedCopies(t *testing.T) {
	draw := rand.New(rand.NewPCG(14, 20))
	done, unread := 0, 0
	for range 100 {
		b, script := drawBar(draw), drawScript(draw)
		sheet := written(t, script)
		places := drawPlaces(draw, sheet, 200)
		first := part(draw, places)
		second := slices.DeleteFunc(places, func(at api.Mark) bool { return slices.Contains(first, at) })
		joined, e := book.Join(without(sheet, first...), without(sheet, second...))
		if e != api.OK {
			t.Errorf("Join of %q without %v and %v: %d", sheet, first, second, e)
		}
		done += checkReplay(t, b, joined, script)
		if _, _, e := book.Replay(b, without(sheet, first...)); e == api.ErrLost {
			unread++
		}
	}
	if done < 400 || unread < 50 {
		t.Errorf("only %d lines are done, and only %d first copies cannot be replayed alone", done, unread)
	}
}

// drawTrain draws a wall box, and the pulses that it sent of some selections.
func drawTrain(t *testing.T, draw *rand.Rand) api.Pulse {
	p := api.Pulse{Letters: 1 + draw.IntN(api.MaxButtons), Numbers: 1 + draw.IntN(api.MaxButtons), Pitch: 10 + draw.IntN(20), Slack: draw.IntN(5), Gap: 40, Pause: 100 + draw.IntN(100)}
	var list []int
	most := api.MaxPulses
	for draw.IntN(10) > 0 {
		letter, number := draw.IntN(p.Letters), draw.IntN(p.Numbers)
		if most -= letter + number + 2; most < 0 {
			break
		}
		list = append(list, letter*p.Numbers+number)
	}
	var e api.Errno
	if p.Times, e = pulses.Write(p, list, draw.IntN(1000)); e != api.OK {
		t.Fatalf("Write of %v, %v: %d", p, list, e)
	}
	return p
}

// P0.19 (the train in the book): the selections that a wall box sent, kept in a book of which at most three marks cannot be read, are read again; and written as pulses, they are read as the same list.
func TestTrainInBook(t *testing.T) {
	draw := rand.New(rand.NewPCG(14, 19))
	sent := 0
	for range 200 {
		p := drawTrain(t, draw)
		list, e := pulses.Read(p)
		if e != api.OK {
			t.Fatalf("Read of %v: %d", p, e)
		}
		var texts []string
		for _, selection := range list {
			texts = append(texts, strconv.Itoa(selection))
		}
		sheet := written(t, texts)
		sheet = without(sheet, drawPlaces(draw, sheet, 3)...)
		checkRead(t, sheet, texts)
		read, _ := book.Read(sheet)
		var again []int
		for _, text := range read {
			selection, e := strconv.Atoi(text)
			if e != nil {
				t.Errorf("%q is read: %v", text, e)
			}
			again = append(again, selection)
		}
		p.Times, e = pulses.Write(p, again, 7)
		then, f := pulses.Read(p)
		if !slices.Equal(then, list) || e != api.OK || f != api.OK {
			t.Errorf("%v of the book are read as %v, not %v; %d, %d", again, then, list, e, f)
		}
		sent += len(list)
	}
	if sent < 500 {
		t.Errorf("only %d selections are sent", sent)
	}
}
