package clerk_test

import (
	"math"
	"slices"
	"testing"

	"shellac/api"
	"shellac/clerk"
)

// widest is a bar with all that the limits allow.
func widest() api.Bar {
	w := api.Wheel{Round: api.MaxRound, Notches: []int{1, 2, 3, 5, 8, 13, 21, 34, 55, 89, 144, 200}, Coins: []int{97, 98, 99, 100}}
	b := api.Bar{Box: emptied(w), Stand: api.Stand{Place: api.MaxRound - 1, Credit: api.MaxPlays}}
	b.Box.Found, b.Box.Marked, b.Box.Slugs = []int{1, 2, 2, 2}, []int{1, 0, 1, 2}, []int{2, 1, 1, 1}
	b.Box.Plays, b.Box.Skips = api.MaxRegister, api.MaxSkips
	b.Tray = api.Tray{Records: slices.Repeat([]api.TrayRecord{{Front: api.MaxSong, Back: api.MaxSong}}, api.MaxTray), At: api.MaxTray - 1, Way: -1, Step: api.MaxTrayStep}
	for n := range api.MaxPresses {
		b.Tray.Presses = append(b.Tray.Presses, api.TrayPress{Side: n, Time: api.MaxClock - n})
	}
	return b
}

// least is a bar with nothing that can be left out.
func least() api.Bar {
	return api.Bar{Box: api.Box{Wheel: api.Wheel{Round: 1}}, Tray: api.Tray{Records: []api.TrayRecord{{Front: 1, Back: 1}}, Way: 1}}
}

func validBars() []api.Bar {
	l := []api.Bar{barB(), widest(), least(), box([]int{0, 2, 1}, []int{0, 1, 0}, []int{9, 0, 0}, 6, 49, 20)}
	for _, s := range []api.Stand{{Place: 0}, {Place: 49}, {Credit: 1}, {Credit: api.MaxPlays}, {Place: 49, Credit: api.MaxPlays}, {Place: 1, Credit: 19}} {
		l = append(l, with(barB(), func(b *api.Bar) { b.Stand = s }))
	}
	return append(l, with(barB(), func(b *api.Bar) { b.Tray = trayT() }))
}

// invalidBars are bars of which just one part is not valid, and one without any valid part.
func invalidBars() []api.Bar {
	var l []api.Bar
	add := func(change func(b *api.Bar)) {
		l = append(l, with(barB(), change), with(widest(), change))
	}
	for _, n := range []int{-1, math.MinInt, math.MaxInt} {
		add(func(b *api.Bar) { b.Stand.Place = n })
		add(func(b *api.Bar) { b.Stand.Credit = n })
		add(func(b *api.Bar) { b.Box.Plays = n })
		add(func(b *api.Bar) { b.Box.Skips = n })
		add(func(b *api.Bar) { b.Box.Wheel.Round = n })
		add(func(b *api.Bar) { b.Box.Wheel.Coins[0] = n })
		add(func(b *api.Bar) { b.Box.Found[0] = n })
		add(func(b *api.Bar) { b.Box.Marked[2] = n })
		add(func(b *api.Bar) { b.Box.Slugs[1] = n })
		add(func(b *api.Bar) { b.Tray.At = n })
		add(func(b *api.Bar) { b.Tray.Way = max(2, n) })
		add(func(b *api.Bar) { b.Tray.Step = n })
		add(func(b *api.Bar) { b.Tray.Records[0].Front = n })
		add(func(b *api.Bar) { b.Tray.Presses = []api.TrayPress{{Side: n}} })
		add(func(b *api.Bar) { b.Tray.Presses = []api.TrayPress{{Time: n}} })
	}
	add(func(b *api.Bar) { b.Stand.Place = b.Box.Wheel.Round })
	add(func(b *api.Bar) { b.Stand.Place = b.Box.Wheel.Round + 1 })
	add(func(b *api.Bar) { b.Stand.Credit = api.MaxPlays + 1 })
	add(func(b *api.Bar) { b.Box = api.Box{} })
	add(func(b *api.Bar) { b.Box.Wheel = api.Wheel{} })
	add(func(b *api.Bar) { b.Box.Wheel = api.Wheel{Round: 200} })
	add(func(b *api.Bar) { b.Box.Wheel.Notches = []int{20, 10} })
	add(func(b *api.Bar) { b.Box.Found = nil })
	add(func(b *api.Bar) { b.Box.Marked = append(b.Box.Marked, 0) })
	add(func(b *api.Bar) { b.Box.Slugs = b.Box.Slugs[1:] })
	add(func(b *api.Bar) { b.Box.Marked[0] = b.Box.Found[0] + 1 })
	add(func(b *api.Bar) { b.Box.Slugs[0] = 13 })
	add(func(b *api.Bar) { b.Box.Found[0], b.Box.Slugs[0] = 7, 6 })
	add(func(b *api.Bar) { b.Box.Plays = api.MaxRegister + 1 })
	add(func(b *api.Bar) { b.Box.Skips = api.MaxSkips + 1 })
	add(func(b *api.Bar) { b.Tray = api.Tray{} })
	add(func(b *api.Bar) { b.Tray.Records = nil })
	add(func(b *api.Bar) { b.Tray.Way = 0 })
	add(func(b *api.Bar) { b.Tray.At = len(b.Tray.Records) })
	add(func(b *api.Bar) { b.Tray.Step = api.MaxTrayStep + 1 })
	add(func(b *api.Bar) { b.Tray.Presses = []api.TrayPress{{Side: 2 * len(b.Tray.Records)}} })
	add(func(b *api.Bar) { b.Tray.Presses = []api.TrayPress{{Time: api.MaxClock + 1}} })
	add(func(b *api.Bar) { b.Tray.Presses = make([]api.TrayPress, api.MaxPresses+1) })
	return append(l, api.Bar{}, with(widest(), func(b *api.Bar) { b.Stand.Place = 200 }))
}

// P12.1: which bars are valid: their boxes, stands and trays.
func TestCheck(t *testing.T) {
	for i, b := range validBars() {
		if e := clerk.Check(b); e != api.OK {
			t.Errorf("valid bar %d: Check of %v = %d", i, b, e)
		}
	}
	for i, b := range invalidBars() {
		if e := clerk.Check(b); e != api.ErrBar {
			t.Errorf("invalid bar %d: Check of %v = %d", i, b, e)
		}
	}
	for _, c := range []condition{fresh, used, full} {
		for b := range drawn(200, c) {
			if e := clerk.Check(b); e != api.OK {
				t.Errorf("Check of %v = %d", b, e)
			}
		}
	}
}

// P12.1: the place that a stand can have is that of the wheel of the box.
func TestStandOfWheel(t *testing.T) {
	for _, round := range []int{1, 25, 50, 200} {
		b := barB()
		b.Box.Wheel.Round, b.Box.Wheel.Notches = round, nil
		for place := range 201 {
			b.Stand.Place = place
			want := api.OK
			if place >= round {
				want = api.ErrBar
			}
			if e := clerk.Check(b); e != want {
				t.Errorf("Check with the place %d of %d = %d", place, round, e)
			}
		}
	}
}

// checkNothing reports a Run that has not the error, or that returns something nevertheless.
func checkNothing(t *testing.T, b api.Bar, script []string, want api.Errno) {
	t.Helper()
	answers, after, e := clerk.Run(b, script)
	if e != want || len(answers) > 0 || !same(after, api.Bar{}) {
		t.Errorf("Run of %v, %d lines = %q, %v, %d, not %d", b, len(script), answers, after, e, want)
	}
}

// P12.2, R1, R2: an invalid bar comes first, also before ErrMany; then nothing else is returned.
func TestInvalidBarComesFirst(t *testing.T) {
	for _, b := range invalidBars() {
		for _, script := range [][]string{nil, {"stand"}, {"empty", "what"}, make([]string, api.MaxLines+1), slices.Repeat([]string{"coin 0"}, 1000)} {
			checkNothing(t, b, script, api.ErrBar)
		}
	}
}

// P12.2, R2, R7: more lines than MaxLines are too many, whatever they are; as many are not.
func TestManyLines(t *testing.T) {
	for _, b := range validBars() {
		for _, line := range []string{"", "stand", "coin 0", "press 0 0", "nothing"} {
			for _, count := range []int{api.MaxLines + 1, api.MaxLines + 2, 1000} {
				checkNothing(t, b, slices.Repeat([]string{line}, count), api.ErrMany)
			}
			for _, count := range []int{api.MaxLines, api.MaxLines - 1} {
				run(t, b, slices.Repeat([]string{line}, count)...)
			}
		}
	}
}

// P12.2: what cannot be asked, or done, is no error of Run.
func TestRefusedIsNoError(t *testing.T) {
	for _, b := range validBars() {
		answers, after := run(t, b, "coin -1", "lose 9", "skips 10", "press 99 0", "wait 99", "at 10000", "cheapest 0", "gives 9", "latest 99 0")
		if !slices.Equal(answers, slices.Repeat([]string{"no"}, 9)) {
			t.Errorf("of %v: %q", b, answers)
		}
		checkBar(t, after, b)
	}
}
