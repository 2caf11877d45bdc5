package tray_test

import (
	"fmt"
	"math"
	"slices"
	"testing"

	"shellac/api"
	"shellac/tray"
)

// answers returns all that the functions say of arguments, as one text.
func answers(t api.Tray, press, side, time int) string {
	l, playsError := tray.Plays(t)
	s, standError := tray.Stand(t, time)
	text := fmt.Sprint(tray.Check(t), l, playsError, s, standError)
	for _, of := range []func() (int, api.Errno){
		func() (int, api.Errno) { return tray.Steps(t) },
		func() (int, api.Errno) { return tray.Served(t, press) },
		func() (int, api.Errno) { return tray.Wait(t, press) },
		func() (int, api.Errno) { return tray.Longest(t) },
		func() (int, api.Errno) { return tray.End(t) },
		func() (int, api.Errno) { return tray.Latest(t, side, time) },
		func() (int, api.Errno) { return tray.Soonest(t) },
	} {
		n, e := of()
		text += fmt.Sprint(";", n, e)
	}
	// which order is returned is free, but not its length, nor whether there is one
	order, e := tray.Arrange(t)
	return text + fmt.Sprint(";", len(order), e)
}

// P1: every function returns, whatever it is given.
func TestAnyArguments(t *testing.T) {
	numbers := []int{0, 1, -1, 11, 12, api.MaxClock, api.MaxClock + 1, math.MaxInt, math.MinInt}
	wild := []api.Tray{
		newTray(records(math.MinInt, math.MaxInt), math.MinInt, math.MinInt, math.MinInt, presses(math.MaxInt, math.MinInt)),
		newTray(make([]api.TrayRecord, 1000), 999, 1, 60, make([]api.TrayPress, 1000)),
		newTray(slices.Repeat(records(1, 1), 1000), 999, -1, 0, presses(1999, 9999)),
	}
	for _, x := range slices.Concat(validTrays(), invalidTrays(), wild) {
		for i, n := range numbers {
			answers(x, n, numbers[(i+3)%len(numbers)], numbers[(i+7)%len(numbers)])
			answers(x, n, n, n)
		}
	}
}

// P1, P2.8: the greatest tray is done in time, and a press at the end of the clock is played behind it.
func TestGreatestArguments(t *testing.T) {
	x := widest()
	l, e := tray.Plays(x)
	if last := l[len(l)-1]; e != api.OK || last.Time <= api.MaxClock {
		t.Errorf("the last play is %v, %d", last, e)
	}
	for side := range 2 * api.MaxTray {
		if text := answers(x, side, side, api.MaxClock); text == "" {
			t.Errorf("no answers of %d", side)
		}
	}
}

// R3: nil and empty lists are the same.
func TestNilAndEmpty(t *testing.T) {
	a := answers(newTray(two(), 1, 1, 5, nil), 0, 1, 30)
	b := answers(newTray(two(), 1, 1, 5, []api.TrayPress{}), 0, 1, 30)
	if a != b {
		t.Errorf("nil: %s; empty: %s", a, b)
	}
	if a, b := answers(newTray(nil, 0, 1, 5, nil), 0, 0, 0), answers(newTray([]api.TrayRecord{}, 0, 1, 5, nil), 0, 0, 0); a != b {
		t.Errorf("nil: %s; empty: %s", a, b)
	}
}

// padded returns a list with spare memory behind it, and all of the memory.
func padded[T any](list []T, pad T) (part, all []T) {
	all = append(slices.Clone(list), pad, pad, pad)
	return all[:len(list)], all
}

// R4: no argument is changed, nor the memory behind it.
func TestArgumentsStay(t *testing.T) {
	for _, x := range validTrays() {
		r, allRecords := padded(x.Records, api.TrayRecord{Front: 77, Back: 77})
		p, allPresses := padded(x.Presses, api.TrayPress{Side: 77, Time: 77})
		text := fmt.Sprint(allRecords, allPresses)
		y := newTray(r, x.At, x.Way, x.Step, p)
		answers(y, 0, 1, 500)
		l, _ := tray.Plays(y)
		for i := range l {
			l[i] = api.TrayPlay{Side: 99, Time: 99}
		}
		order, _ := tray.Arrange(y)
		for i := range order {
			order[i] = 99
		}
		if after := fmt.Sprint(allRecords, allPresses); after != text {
			t.Errorf("changed from %s to %s", text, after)
		}
	}
}

// R4: a result is new memory each time, and the same again.
func TestResultsAreNew(t *testing.T) {
	first, _ := tray.Plays(trayT())
	for i := range first {
		first[i] = api.TrayPlay{Side: 99, Time: 99}
	}
	if second, e := tray.Plays(trayT()); e != api.OK || !slices.Equal(second, plays(4, 10, 3, 75, 0, 160, 0, 315)) {
		t.Errorf("Plays = %v, %d behind %v", second, e, first)
	}
	order, _ := tray.Arrange(trayU())
	for i := range order {
		order[i] = 99
	}
	if second, e := tray.Arrange(trayU()); e != api.OK || !slices.Equal(second, []int{1, 0}) {
		t.Errorf("Arrange = %v, %d behind %v", second, e, order)
	}
}

// No state is kept: what was asked before changes no answer.
func TestNoState(t *testing.T) {
	a, b := answers(trayT(), 0, 1, 200), answers(trayU(), 0, 1, 200)
	if a == b {
		t.Errorf("two trays answer the same: %s", a)
	}
	if again := answers(trayT(), 0, 1, 200); again != a {
		t.Errorf("first %s, then %s", a, again)
	}
}
