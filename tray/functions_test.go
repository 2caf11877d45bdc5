package tray_test

import (
	"slices"
	"testing"

	"shellac/api"
	"shellac/tray"
)

// P2.2, P2.3: the chapter's examples, and the edges: one record, no way, presses at the moment at which the carriage comes or a side begins or ends.
func TestPlaysSteps(t *testing.T) {
	two := records(10, 20, 30, 40)
	for i, x := range []struct {
		t     api.Tray
		want  []api.TrayPlay
		steps int
	}{
		{trayT(), plays(4, 10, 3, 75, 0, 160, 0, 315), 9},
		{trayU(), plays(3, 60), 2},
		{newTray(two, 1, 1, 5, nil), nil, 0},
		// one record: the carriage turns around, and takes no step
		{newTray(records(3, 4), 0, 1, 60, presses(1, 0, 0, 0, 0, 1)), plays(0, 0, 1, 3, 0, 7), 0},
		{newTray(records(3, 4), 0, -1, 60, presses(0, 7)), plays(0, 7), 0},
		// just when it comes to the record, and one second later
		{newTray(two, 0, 1, 5, presses(3, 0, 2, 5)), plays(2, 5, 3, 35), 2},
		{newTray(two, 0, 1, 5, presses(3, 0, 2, 6)), plays(3, 5, 2, 55), 3},
		// asked for when the play begins: the pin is set already; one second later it is set once more
		{newTray(two, 0, 1, 5, presses(0, 0, 0, 0)), plays(0, 0), 1},
		{newTray(two, 0, 1, 5, presses(2, 0, 2, 5)), plays(2, 5), 1},
		{newTray(two, 0, 1, 5, presses(2, 0, 2, 6)), plays(2, 5, 2, 45), 3},
		// just when the side ends, the next position is still tried with the new pin
		{newTray(two, 1, 1, 5, presses(2, 0, 3, 30)), plays(2, 0, 3, 30), 1},
		{newTray(two, 1, 1, 5, presses(2, 0, 3, 31)), plays(2, 0, 3, 31), 1},
		// behind the last side it has gone on: the front it left is played after a whole round
		{newTray(two, 0, 1, 5, presses(0, 0, 0, 10)), plays(0, 0, 0, 20), 3},
		{newTray(two, 0, 1, 5, presses(0, 0, 2, 100)), plays(0, 0, 2, 100), 1},
		{newTray(two, 0, 1, 5, presses(0, 0, 0, 100)), plays(0, 0, 0, 105), 3},
		// a press that calls while it stands still
		{newTray(two, 0, 1, 5, presses(0, 9)), plays(0, 9), 1},
		{newTray(two, 0, 1, 5, presses(2, 9, 0, 9)), plays(0, 9, 2, 24), 1},
		// no time is needed for the way
		{newTray(two, 0, 1, 0, presses(1, 0, 2, 0)), plays(2, 0, 1, 30), 2},
		{newTray(two, 0, -1, 0, presses(0, 0, 1, 0)), plays(1, 0, 0, 20), 1},
	} {
		l, e := tray.Plays(x.t)
		n, f := tray.Steps(x.t)
		if !slices.Equal(l, x.want) || e != api.OK || n != x.steps || f != api.OK {
			t.Errorf("%d: Plays = %v, %d; Steps = %d, %d", i, l, e, n, f)
		}
	}
}

// P2.4: the chapter's examples, and presses that one play serves together.
func TestServedWait(t *testing.T) {
	twice := newTray(records(10, 20), 0, 1, 5, presses(0, 3, 0, 3, 0, 4, 1, 13, 0, 99, 0, 0))
	for i, x := range []struct {
		t                   api.Tray
		press, served, wait int
	}{
		{trayT(), 0, 1, 75},
		{trayT(), 1, 0, 0},
		{trayT(), 2, 2, 148},
		{trayT(), 3, 1, 25},
		{trayT(), 4, 3, 15},
		{trayU(), 0, 0, 60},
		// from 0 to 10 the front; then again from 10 on
		{twice, 5, 0, 0},
		{twice, 0, 1, 7},
		{twice, 1, 1, 7},
		{twice, 2, 1, 6},
		{twice, 3, 2, 7},
		{twice, 4, 3, 0},
	} {
		n, e := tray.Served(x.t, x.press)
		wait, f := tray.Wait(x.t, x.press)
		if n != x.served || e != api.OK || wait != x.wait || f != api.OK {
			t.Errorf("%d: Served of %d = %d, %d; Wait = %d, %d", i, x.press, n, e, wait, f)
		}
	}
}

// P2.5, P2.6: the chapter's examples, equal waits, and the end of a side that is not the last one of the list.
func TestLongestEnd(t *testing.T) {
	two := records(10, 20, 30, 40)
	for i, x := range []struct {
		t            api.Tray
		longest, end int
	}{
		{trayT(), 2, 415},
		{trayU(), 0, 100},
		{newTray(two, 0, 1, 5, presses(0, 50)), 0, 60},
		{newTray(two, 0, 1, 5, presses(2, 0, 0, 0, 2, 0)), 0, 45},
		{newTray(two, 0, 1, 5, presses(0, 0, 2, 0, 2, 0)), 1, 45},
		{newTray(two, 0, 1, 5, presses(0, 0, 2, 1, 2, 0)), 2, 45},
		{newTray(two, 0, 1, 0, presses(0, 0, 0, 90)), 0, 100},
		{newTray(two, 1, -1, 7, presses(0, 0, 3, 0, 1, 0)), 0, 77},
	} {
		n, e := tray.Longest(x.t)
		end, f := tray.End(x.t)
		if n != x.longest || e != api.OK || end != x.end || f != api.OK {
			t.Errorf("%d: Longest = %d, %d; End = %d, %d", i, n, e, end, f)
		}
	}
	for _, none := range []api.Tray{newTray(two, 0, 1, 5, nil), newTray(two, 0, 1, 5, presses())} {
		n, e := tray.Longest(none)
		end, f := tray.End(none)
		if n != 0 || e != api.ErrNone || end != 0 || f != api.ErrNone {
			t.Errorf("no press: Longest = %d, %d; End = %d, %d", n, e, end, f)
		}
	}
}

// P2.7: the chapter's examples, and each second around which something happens.
func TestStand(t *testing.T) {
	none := newTray(records(10, 20, 30, 40), 1, -1, 5, nil)
	at := newTray(records(10, 20, 30, 40), 0, 1, 5, presses(2, 0))
	free := newTray(records(10, 20, 30, 40), 0, 1, 0, presses(2, 3))
	for i, x := range []struct {
		t    api.Tray
		time int
		want api.TrayStand
	}{
		{trayT(), 0, stand(0, 1, -1)},
		{trayT(), 4, stand(0, 1, -1)},
		{trayT(), 5, stand(1, 1, -1)},
		{trayT(), 10, stand(2, 1, 4)},
		{trayT(), 69, stand(2, 1, 4)},
		{trayT(), 70, stand(2, -1, -1)},
		{trayT(), 75, stand(1, -1, 3)},
		{trayT(), 100, stand(1, -1, 3)},
		{trayT(), 155, stand(1, -1, -1)},
		{trayT(), 160, stand(0, 1, 0)},
		{trayT(), 265, stand(1, 1, -1)},
		{trayT(), 304, stand(1, 1, -1)},
		{trayT(), 305, stand(2, -1, -1)},
		{trayT(), 415, stand(0, 1, -1)},
		{trayT(), 420, stand(1, 1, -1)},
		{trayT(), api.MaxClock, stand(1, 1, -1)},
		{none, 0, stand(1, -1, -1)},
		{none, api.MaxClock, stand(1, -1, -1)},
		{at, 4, stand(0, 1, -1)},
		{at, 5, stand(1, 1, 2)},
		{at, 34, stand(1, 1, 2)},
		{at, 35, stand(1, -1, -1)},
		{at, 36, stand(1, -1, -1)},
		{free, 2, stand(0, 1, -1)},
		{free, 3, stand(1, 1, 2)},
		{free, 33, stand(1, -1, -1)},
		{newTray(records(999, 999), 0, 1, 0, presses(0, 9999)), 9999, stand(0, 1, 0)},
		{newTray(records(999, 999), 0, 1, 0, presses(0, 9999)), 9998, stand(0, 1, -1)},
	} {
		if s, e := tray.Stand(x.t, x.time); s != x.want || e != api.OK {
			t.Errorf("%d: Stand at %d = %v, %d", i, x.time, s, e)
		}
	}
}

// P2.8: the chapter's examples, and the edges: the time 0, the time by itself, a tray with all its presses.
func TestLatest(t *testing.T) {
	alone := newTray(records(10, 20, 30, 40), 0, 1, 5, nil)
	for i, x := range []struct {
		t              api.Tray
		side, by, want int
		e              api.Errno
	}{
		{trayT(), 2, 20, 5, api.OK},
		{trayT(), 1, 100, 0, api.ErrNone},
		{alone, 0, 0, 0, api.OK},
		{alone, 0, 9999, 9999, api.OK},
		{alone, 2, 5, 0, api.OK},
		{alone, 2, 4, 0, api.ErrNone},
		{alone, 1, 9, 0, api.ErrNone},
		{alone, 1, 10, 0, api.OK},
		{alone, 1, 9999, 9989, api.OK},
		// a side that plays already can be asked for up to its beginning
		{trayU(), 3, 60, 60, api.OK},
		{trayU(), 3, 99, 60, api.OK},
		{trayU(), 3, 59, 0, api.ErrNone},
		{trayT(), 0, 9999, 9984, api.OK},
		{trayT(), 0, 420, 315, api.OK},
		{newTray(records(7, 7), 0, 1, 0, make([]api.TrayPress, api.MaxPresses)), 0, 6, 0, api.OK},
		{newTray(records(7, 7), 0, 1, 0, make([]api.TrayPress, api.MaxPresses)), 1, 7, 7, api.OK},
		{newTray(records(7, 7), 0, 1, 0, make([]api.TrayPress, api.MaxPresses)), 0, 13, 13, api.OK},
	} {
		if n, e := tray.Latest(x.t, x.side, x.by); n != x.want || e != x.e {
			t.Errorf("%d: Latest of %d, %d = %d, %d", i, x.side, x.by, n, e)
		}
	}
}

// checkArrange reports an Arrange that is no order of the records, or does not end when it should.
func checkArrange(t *testing.T, x api.Tray, soonest int) {
	t.Helper()
	order, e := tray.Arrange(x)
	sorted := slices.Sorted(slices.Values(order))
	places := make([]int, len(x.Records))
	for i := range places {
		places[i] = i
	}
	if e != api.OK || !slices.Equal(sorted, places) {
		t.Errorf("Arrange of %v = %v, %d", x, order, e)
		return
	}
	if end := watch(stoodIn(x, order)).end; end != soonest {
		t.Errorf("Arrange of %v = %v ends at %d, not at %d", x, order, end, soonest)
	}
}

// P2.9, P2.10: the chapter's examples, one record, and an order that is not its own inverse.
func TestSoonestArrange(t *testing.T) {
	if order, e := tray.Arrange(trayU()); !slices.Equal(order, []int{1, 0}) || e != api.OK {
		t.Errorf("Arrange of U = %v, %d", order, e)
	}
	// all fronts in a row, the way up: the record that stood at 2 is wanted first, then that at 0, then that at 1
	turning := newTray(records(10, 10, 10, 10, 10, 10), 0, 1, 60, presses(4, 0, 0, 70, 2, 140))
	if order, e := tray.Arrange(turning); !slices.Equal(order, []int{2, 0, 1}) || e != api.OK {
		t.Errorf("Arrange of three records = %v, %d", order, e)
	}
	for i, x := range []struct {
		t    api.Tray
		want int
	}{
		{trayU(), 40},
		{turning, 150},
		{newTray(records(5, 6), 0, 1, 60, presses(1, 3)), 9},
		{newTray(records(5, 6, 5, 6), 1, -1, 60, presses(2, 3, 0, 3)), 133},
	} {
		if n, e := tray.Soonest(x.t); n != x.want || e != api.OK {
			t.Errorf("%d: Soonest = %d, %d", i, n, e)
		}
		checkArrange(t, x.t, x.want)
	}
	none := newTray(records(5, 6, 5, 6), 1, -1, 60, nil)
	n, e := tray.Soonest(none)
	order, f := tray.Arrange(none)
	if n != 0 || e != api.ErrNone || len(order) > 0 || f != api.ErrNone {
		t.Errorf("no press: Soonest = %d, %d; Arrange = %v, %d", n, e, order, f)
	}
}

// checkWatched compares all that is said of the carriage with what is seen second by second.
func checkWatched(t *testing.T, x api.Tray, times []int) {
	t.Helper()
	w := watch(x)
	l, e := tray.Plays(x)
	steps, f := tray.Steps(x)
	if !slices.Equal(l, w.plays) || e != api.OK || steps != w.steps || f != api.OK {
		t.Errorf("of %v: Plays = %v, %d, not %v; Steps = %d, %d, not %d", x, l, e, w.plays, steps, f, w.steps)
	}
	for _, time := range times {
		if s, e := tray.Stand(x, time); s != w.at(time) || e != api.OK {
			t.Errorf("of %v: Stand at %d = %v, %d, not %v", x, time, s, e, w.at(time))
		}
	}
	longest, first := -1, 0
	for i, p := range x.Presses {
		n, e := tray.Served(x, i)
		wait, f := tray.Wait(x, i)
		if n != w.servedBy(p) || e != api.OK || wait != w.waits(p) || f != api.OK {
			t.Errorf("of %v, %d: Served = %d, %d, not %d; Wait = %d, %d, not %d", x, i, n, e, w.servedBy(p), wait, f, w.waits(p))
		}
		if w.waits(p) > longest {
			longest, first = w.waits(p), i
		}
	}
	if len(x.Presses) == 0 {
		return
	}
	n, e := tray.Longest(x)
	end, f := tray.End(x)
	if n != first || e != api.OK || end != w.end || f != api.OK {
		t.Errorf("of %v: Longest = %d, %d, not %d; End = %d, %d, not %d", x, n, e, first, end, f, w.end)
	}
}

// P2.2 to P2.7: the carriage does what is seen second by second.
func TestSecondBySecond(t *testing.T) {
	var early []int
	for time := range 20 {
		early = append(early, time)
	}
	for x := range smallTrays() {
		checkWatched(t, x, early)
	}
	for x := range drawn(1000, few) {
		checkWatched(t, x, early)
	}
	for x, draw := range drawn(1000, busy) {
		checkWatched(t, x, []int{0, draw.IntN(50), draw.IntN(150), draw.IntN(400), api.MaxClock})
	}
	for x, draw := range drawn(60, full) {
		checkWatched(t, x, []int{0, 1, draw.IntN(api.MaxClock), draw.IntN(api.MaxClock), api.MaxClock})
	}
	checkWatched(t, widest(), []int{0, 1, 61, 5000, 9998, 9999})
}

// checkLatest compares Latest with all times at which one more press is tried.
func checkLatest(t *testing.T, x api.Tray, side, by int) {
	t.Helper()
	want := latestBy(x, side, by)
	n, e := tray.Latest(x, side, by)
	if want < 0 && (n != 0 || e != api.ErrNone) || want >= 0 && (n != want || e != api.OK) {
		t.Errorf("Latest of %v, %d, %d = %d, %d, not %d", x, side, by, n, e, want)
	}
}

// P2.8, P2.16: no later press is in time.
func TestAllLatest(t *testing.T) {
	for x := range smallTrays() {
		checkLatest(t, x, len(x.Presses)%2, 6)
		checkLatest(t, x, 2*len(x.Records)-1, 9)
	}
	for x, draw := range drawn(400, few) {
		checkLatest(t, x, draw.IntN(2*len(x.Records)), draw.IntN(60))
	}
	for x, draw := range drawn(100, busy) {
		checkLatest(t, x, draw.IntN(2*len(x.Records)), draw.IntN(200))
	}
}

// checkSoonest compares Soonest and Arrange with all orders.
func checkSoonest(t *testing.T, x api.Tray) {
	t.Helper()
	if len(x.Presses) == 0 {
		return
	}
	want := soonestBy(x)
	if n, e := tray.Soonest(x); n != want || e != api.OK {
		t.Errorf("Soonest of %v = %d, %d, not %d", x, n, e, want)
	}
	checkArrange(t, x, want)
}

// P2.9, P2.10: no order is better.
func TestAllOrders(t *testing.T) {
	for x := range smallTrays() {
		checkSoonest(t, x)
	}
	for x := range drawn(200, few) {
		checkSoonest(t, x)
	}
	for x := range drawn(12, busy) {
		checkSoonest(t, x)
	}
}
