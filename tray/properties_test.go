package tray_test

import (
	"math/rand/v2"
	"slices"
	"testing"

	"shellac/api"
	"shellac/tray"
)

// eachDrawn checks small and large trays.
func eachDrawn(count int, check func(x api.Tray, draw *rand.Rand)) {
	for _, m := range []limits{few, busy, full} {
		for x, draw := range drawn(count, m) {
			check(x, draw)
		}
	}
}

// number returns the result of a call that must be without an error.
func number(t *testing.T, n int, e api.Errno) int {
	t.Helper()
	if e != api.OK {
		t.Errorf("error %d", e)
	}
	return n
}

func playsOf(t *testing.T, x api.Tray) []api.TrayPlay {
	t.Helper()
	l, e := tray.Plays(x)
	if e != api.OK {
		t.Errorf("Plays of %v: %d", x, e)
	}
	return l
}

func served(t *testing.T, x api.Tray, press int) int {
	t.Helper()
	n, e := tray.Served(x, press)
	return number(t, n, e)
}

func wait(t *testing.T, x api.Tray, press int) int {
	t.Helper()
	n, e := tray.Wait(x, press)
	return number(t, n, e)
}

func end(t *testing.T, x api.Tray) int {
	t.Helper()
	n, e := tray.End(x)
	return number(t, n, e)
}

func standOf(t *testing.T, x api.Tray, time int) api.TrayStand {
	t.Helper()
	s, e := tray.Stand(x, time)
	if e != api.OK {
		t.Errorf("Stand of %v at %d: %d", x, time, e)
	}
	return s
}

// P2.11 (one way up and down): each press is served within one round, each play serves a press, and no side is played too often.
func TestOneWayUpAndDown(t *testing.T) {
	check := func(x api.Tray, _ *rand.Rand) {
		most := 2 * x.Step * (len(x.Records) - 1)
		for side := range 2 * len(x.Records) {
			most += lasts(x, side)
		}
		l := playsOf(t, x)
		serves := make([]bool, len(l))
		asked, played := map[int]int{}, map[int]int{}
		for i, p := range x.Presses {
			asked[p.Side]++
			n := served(t, x, i)
			if n < 0 || n >= len(l) || l[n].Side != p.Side || l[n].Time-p.Time != wait(t, x, i) {
				t.Errorf("of %v: %d is served by %d of %v", x, i, n, l)
				continue
			}
			serves[n] = true
			if w := wait(t, x, i); w < 0 || w > most {
				t.Errorf("of %v: %d waits %d, not up to %d", x, i, w, most)
			}
		}
		for i, p := range l {
			played[p.Side]++
			if !serves[i] || played[p.Side] > asked[p.Side] {
				t.Errorf("of %v: the play %d of %v is not asked for", x, i, l)
			}
		}
	}
	eachDrawn(500, check)
	check(widest(), nil)
}

// P2.12 (any order): the order in which presses are listed changes nothing but their numbers.
func TestAnyOrder(t *testing.T) {
	eachDrawn(200, func(x api.Tray, draw *rand.Rand) {
		if len(x.Presses) == 0 {
			return
		}
		turn := draw.Perm(len(x.Presses))
		y := x
		y.Presses = nil
		for _, from := range turn {
			y.Presses = append(y.Presses, x.Presses[from])
		}
		time, side := draw.IntN(api.MaxClock+1), draw.IntN(2*len(x.Records))
		a, e := tray.Latest(x, side, time)
		b, f := tray.Latest(y, side, time)
		if !slices.Equal(playsOf(t, x), playsOf(t, y)) || end(t, x) != end(t, y) || standOf(t, x, time) != standOf(t, y, time) || a != b || e != f {
			t.Errorf("%v and %v differ", x, y)
		}
		a, e = tray.Steps(x)
		b, f = tray.Steps(y)
		if a != b || e != api.OK || f != api.OK {
			t.Errorf("Steps of %v is %d, of %v %d", x, a, y, b)
		}
		for i, from := range turn {
			if served(t, y, i) != served(t, x, from) || wait(t, y, i) != wait(t, x, from) {
				t.Errorf("of %v and %v: %d and %d are served differently", x, y, from, i)
			}
		}
	})
	for x, draw := range drawn(20, few) {
		if len(x.Presses) == 0 {
			continue
		}
		y := x
		y.Presses = slices.Clone(x.Presses)
		draw.Shuffle(len(y.Presses), func(i, j int) { y.Presses[i], y.Presses[j] = y.Presses[j], y.Presses[i] })
		a, e := tray.Soonest(x)
		b, f := tray.Soonest(y)
		if a != b || e != api.OK || f != api.OK {
			t.Errorf("Soonest of %v is %d, of %v %d", x, a, y, b)
		}
	}
}

// P2.13 (asked for twice): one more press between a press and its play changes nothing; one before or after these can.
func TestAskedForTwice(t *testing.T) {
	eachDrawn(300, func(x api.Tray, draw *rand.Rand) {
		if len(x.Presses) == api.MaxPresses {
			x.Presses = x.Presses[1:]
		}
		l := playsOf(t, x)
		for i, p := range x.Presses {
			w := wait(t, x, i)
			for _, later := range []int{0, w, draw.IntN(w + 1)} {
				if p.Time+later > api.MaxClock {
					continue
				}
				y := with(x, api.TrayPress{Side: p.Side, Time: p.Time + later})
				if !slices.Equal(playsOf(t, y), l) || served(t, y, len(x.Presses)) != served(t, x, i) || served(t, y, i) != served(t, x, i) {
					t.Errorf("of %v: %d, asked for again %d later, is played otherwise", x, i, later)
				}
			}
			y := with(x, api.TrayPress{Side: p.Side, Time: p.Time + w + 1})
			if tray.Check(y) == api.OK && served(t, y, len(x.Presses)) == served(t, x, i) {
				t.Errorf("of %v: %d, asked for after its play has begun, is served by it", x, i)
			}
		}
	})
}

// before returns the plays that begin before a time.
func before(l []api.TrayPlay, time int) []api.TrayPlay {
	n := 0
	for n < len(l) && l[n].Time < time {
		n++
	}
	return l[:n]
}

// P2.14 (what was before): a press changes nothing of what the carriage did before.
func TestWhatWasBefore(t *testing.T) {
	eachDrawn(300, func(x api.Tray, draw *rand.Rand) {
		for _, clock := range []int{50, api.MaxClock} {
			if len(x.Presses) == api.MaxPresses {
				x.Presses = x.Presses[1:]
			}
			p := drawPress(draw, x, clock)
			y := with(x, p)
			if !slices.Equal(before(playsOf(t, x), p.Time), before(playsOf(t, y), p.Time)) {
				t.Errorf("of %v: %v changes what was before", x, p)
			}
			for _, time := range []int{p.Time - 1, p.Time - 2, draw.IntN(p.Time + 1), 0} {
				if time >= 0 && time < p.Time && standOf(t, x, time) != standOf(t, y, time) {
					t.Errorf("of %v: %v changes the stand at %d", x, p, time)
				}
			}
		}
	})
}

// turned returns a tray that is turned around.
func turned(x api.Tray) api.Tray {
	out := newTray(nil, len(x.Records)-1-x.At, -x.Way, x.Step, nil)
	for _, r := range slices.Backward(x.Records) {
		out.Records = append(out.Records, api.TrayRecord{Front: r.Back, Back: r.Front})
	}
	for _, p := range x.Presses {
		out.Presses = append(out.Presses, api.TrayPress{Side: turnedSide(x, p.Side), Time: p.Time})
	}
	return out
}

// turnedSide returns the number that a side has if its tray is turned around.
func turnedSide(x api.Tray, side int) int { return 2*len(x.Records) - 1 - side }

// P2.15 (turned around): the plays of a tray that is turned around are the same, at the same times.
func TestTurnedAround(t *testing.T) {
	eachDrawn(300, func(x api.Tray, draw *rand.Rand) {
		y := turned(x)
		var want []api.TrayPlay
		for _, p := range playsOf(t, x) {
			want = append(want, api.TrayPlay{Side: turnedSide(x, p.Side), Time: p.Time})
		}
		if l := playsOf(t, y); !slices.Equal(l, want) {
			t.Errorf("%v turned around plays %v, not %v", x, l, want)
		}
		time := draw.IntN(api.MaxClock + 1)
		a, b := standOf(t, x, time), standOf(t, y, time)
		if b.Side >= 0 {
			b.Side = turnedSide(x, b.Side)
		}
		if (a != api.TrayStand{At: len(x.Records) - 1 - b.At, Way: -b.Way, Side: b.Side}) {
			t.Errorf("%v turned around stands at %v, not at %v", x, b, a)
		}
	})
}

// P2.16 (the latest press): a press at Latest is served in time, a later one is not.
func TestLatestPress(t *testing.T) {
	eachDrawn(200, func(x api.Tray, draw *rand.Rand) {
		if len(x.Presses) == api.MaxPresses {
			x.Presses = x.Presses[1:]
		}
		side := draw.IntN(2 * len(x.Records))
		by := draw.IntN([]int{30, 300, api.MaxClock + 1}[draw.IntN(3)])
		begins := func(time int) int {
			return time + wait(t, with(x, api.TrayPress{Side: side, Time: time}), len(x.Presses))
		}
		last, e := tray.Latest(x, side, by)
		if e == api.ErrNone {
			last = -1
		} else if at := begins(last); e != api.OK || last > by || at > by {
			t.Errorf("Latest of %v, %d, %d = %d, %d, which is played at %d", x, side, by, last, e, at)
		}
		for late := last + 1; late <= by; late += 1 + draw.IntN(20) {
			if at := begins(late); at <= by {
				t.Errorf("Latest of %v, %d, %d = %d, %d, but %d is played at %d", x, side, by, last, e, late, at)
			}
		}
	})
}

// P2.17 (the best order): Soonest is not above End, and is End if the records stand as Arrange says.
func TestBestOrder(t *testing.T) {
	eachDrawn(40, func(x api.Tray, draw *rand.Rand) {
		if len(x.Presses) == 0 {
			return
		}
		least, e := tray.Soonest(x)
		soonest := number(t, least, e)
		order, e := tray.Arrange(x)
		if e != api.OK || soonest > end(t, x) || end(t, stoodIn(x, order)) != soonest {
			t.Errorf("of %v: End %d; Soonest %d; Arrange = %v, %d", x, end(t, x), soonest, order, e)
			return
		}
		other := draw.Perm(len(x.Records))
		if n, e := tray.Soonest(stoodIn(x, other)); n != soonest || e != api.OK {
			t.Errorf("Soonest of %v is %d, and in another order %d, %d", x, soonest, n, e)
		}
	})
}
