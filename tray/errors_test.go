package tray_test

import (
	"math"
	"slices"
	"testing"

	"shellac/api"
	"shellac/tray"
)

// two are two ordinary records.
func two() []api.TrayRecord { return records(10, 20, 30, 40) }

func validTrays() []api.Tray {
	return []api.Tray{
		trayT(), trayU(), widest(),
		newTray(records(1, 1), 0, 1, 0, nil),
		newTray(records(1, 1), 0, -1, 0, []api.TrayPress{}),
		newTray(records(api.MaxSong, 1, 1, api.MaxSong), 1, -1, api.MaxTrayStep, presses(3, api.MaxClock)),
		newTray(slices.Repeat(records(1, 2), api.MaxTray), 5, 1, 1, presses(11, 0)),
		newTray(two(), 0, 1, 5, make([]api.TrayPress, api.MaxPresses)),
		newTray(two(), 0, 1, 5, presses(3, 9, 0, 7, 3, 8, 3, 8)),
	}
}

func invalidTrays() []api.Tray {
	return []api.Tray{
		{},
		newTray(nil, 0, 1, 5, nil),
		newTray(slices.Repeat(records(1, 2), api.MaxTray+1), 0, 1, 5, nil),
		newTray(records(0, 20), 0, 1, 5, nil),
		newTray(records(10, 0), 0, 1, 5, nil),
		newTray(records(-1, 20), 0, 1, 5, nil),
		newTray(records(10, 20, 30, -1), 0, 1, 5, nil),
		newTray(records(api.MaxSong+1, 20), 0, 1, 5, nil),
		newTray(records(10, 20, 30, api.MaxSong+1), 0, 1, 5, nil),
		newTray(records(math.MaxInt, 20), 0, 1, 5, nil),
		newTray(records(10, math.MinInt), 0, 1, 5, nil),
		newTray(two(), -1, 1, 5, nil),
		newTray(two(), 2, 1, 5, nil),
		newTray(two(), 3, -1, 5, nil),
		newTray(two(), math.MaxInt, 1, 5, nil),
		newTray(two(), math.MinInt, 1, 5, nil),
		newTray(two(), 0, 0, 5, nil),
		newTray(two(), 0, 2, 5, nil),
		newTray(two(), 0, -2, 5, nil),
		newTray(two(), 0, math.MinInt, 5, nil),
		newTray(two(), 0, 1, -1, nil),
		newTray(two(), 0, 1, api.MaxTrayStep+1, nil),
		newTray(two(), 0, 1, math.MaxInt, nil),
		newTray(two(), 0, 1, 5, make([]api.TrayPress, api.MaxPresses+1)),
		newTray(two(), 0, 1, 5, presses(-1, 0)),
		newTray(two(), 0, 1, 5, presses(4, 0)),
		newTray(two(), 0, 1, 5, presses(math.MaxInt, 0)),
		newTray(two(), 0, 1, 5, presses(0, -1)),
		newTray(two(), 0, 1, 5, presses(0, api.MaxClock+1)),
		newTray(two(), 0, 1, 5, presses(0, math.MinInt)),
		newTray(two(), 0, 1, 5, presses(0, 0, 1, 1, 4, 2)),
		newTray(two(), 0, 1, 5, presses(0, 0, 1, 1, 3, -2)),
	}
}

// answer is the error of a function, and whether its other result is the zero value.
type answer struct {
	e    api.Errno
	zero bool
}

// answersOf asks all functions but Check.
func answersOf(t api.Tray, press, side, time int) map[string]answer {
	all := map[string]answer{}
	for name, of := range map[string]func() (int, api.Errno){
		"Steps":   func() (int, api.Errno) { return tray.Steps(t) },
		"Served":  func() (int, api.Errno) { return tray.Served(t, press) },
		"Wait":    func() (int, api.Errno) { return tray.Wait(t, press) },
		"Longest": func() (int, api.Errno) { return tray.Longest(t) },
		"End":     func() (int, api.Errno) { return tray.End(t) },
		"Latest":  func() (int, api.Errno) { return tray.Latest(t, side, time) },
		"Soonest": func() (int, api.Errno) { return tray.Soonest(t) },
	} {
		n, e := of()
		all[name] = answer{e, n == 0}
	}
	l, e := tray.Plays(t)
	all["Plays"] = answer{e, len(l) == 0}
	s, e := tray.Stand(t, time)
	all["Stand"] = answer{e, s == api.TrayStand{}}
	order, e := tray.Arrange(t)
	all["Arrange"] = answer{e, len(order) == 0}
	return all
}

// P2.1: which trays are valid.
func TestCheck(t *testing.T) {
	for i, x := range validTrays() {
		if e := tray.Check(x); e != api.OK {
			t.Errorf("valid tray %d: Check = %d", i, e)
		}
	}
	for i, x := range invalidTrays() {
		if e := tray.Check(x); e != api.ErrTray {
			t.Errorf("invalid tray %d: Check = %d", i, e)
		}
	}
}

// P2.1, R1, R2: an invalid tray comes before an invalid argument, and before ErrNone; nothing else is said of it.
func TestInvalidTrayComesFirst(t *testing.T) {
	for i, x := range invalidTrays() {
		for _, n := range []int{0, -1, api.MaxClock + 1} {
			for name, a := range answersOf(x, n, n, n) {
				if a.e != api.ErrTray || !a.zero {
					t.Errorf("invalid tray %d, %d: %s: %d, zero: %t", i, n, name, a.e, a.zero)
				}
			}
		}
	}
}

// P2.4: the presses that are none, and those that just are; without a press there is none, but this is no ErrNone.
func TestPressArguments(t *testing.T) {
	none := newTray(two(), 0, 1, 5, nil)
	for i, x := range []struct {
		t     api.Tray
		press int
		want  api.Errno
	}{
		{trayT(), 0, api.OK},
		{trayT(), 4, api.OK},
		{trayT(), 5, api.ErrArg},
		{trayT(), -1, api.ErrArg},
		{trayT(), math.MaxInt, api.ErrArg},
		{trayT(), math.MinInt, api.ErrArg},
		{none, 0, api.ErrArg},
		{none, -1, api.ErrArg},
	} {
		n, e := tray.Served(x.t, x.press)
		wait, f := tray.Wait(x.t, x.press)
		if e != x.want || f != x.want || x.want != api.OK && (n != 0 || wait != 0) {
			t.Errorf("%d: Served of %d = %d, %d; Wait = %d, %d", i, x.press, n, e, wait, f)
		}
	}
}

// P2.7: the times that are none, and those that just are.
func TestStandArguments(t *testing.T) {
	for _, x := range validTrays() {
		for _, time := range []int{0, api.MaxClock} {
			if _, e := tray.Stand(x, time); e != api.OK {
				t.Errorf("Stand of %v at %d: %d", x, time, e)
			}
		}
		for _, time := range []int{-1, api.MaxClock + 1, math.MaxInt, math.MinInt} {
			if s, e := tray.Stand(x, time); e != api.ErrArg || s != (api.TrayStand{}) {
				t.Errorf("Stand of %v at %d = %v, %d", x, time, s, e)
			}
		}
	}
}

// P2.8, R1: the sides and times that are none come before ErrNone.
func TestLatestArguments(t *testing.T) {
	for i, x := range []struct {
		side, by int
		want     api.Errno
	}{
		{0, 0, api.OK},
		{3, api.MaxClock, api.OK},
		{3, 0, api.ErrNone},
		{-1, 0, api.ErrArg},
		{4, 0, api.ErrArg},
		{4, api.MaxClock, api.ErrArg},
		{math.MaxInt, 50, api.ErrArg},
		{math.MinInt, 50, api.ErrArg},
		{0, -1, api.ErrArg},
		{3, -1, api.ErrArg},
		{0, api.MaxClock + 1, api.ErrArg},
		{0, math.MaxInt, api.ErrArg},
		{0, math.MinInt, api.ErrArg},
	} {
		n, e := tray.Latest(newTray(two(), 0, 1, 5, nil), x.side, x.by)
		if e != x.want || e != api.OK && n != 0 {
			t.Errorf("%d: Latest of %d, %d = %d, %d", i, x.side, x.by, n, e)
		}
	}
}

// P2.5, P2.6, P2.9, P2.10: only these four say ErrNone if there is no press; the others have a result.
func TestNoPress(t *testing.T) {
	for name, a := range answersOf(newTray(two(), 0, 1, 5, nil), 0, 0, 0) {
		want := answer{api.OK, name != "Stand"} // of Stand, the Side is -1
		switch name {
		case "Longest", "End", "Soonest", "Arrange":
			want = answer{api.ErrNone, true}
		case "Served", "Wait":
			want = answer{api.ErrArg, true}
		}
		if a != want {
			t.Errorf("%s: %d, zero: %t", name, a.e, a.zero)
		}
	}
}
