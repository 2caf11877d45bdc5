package tray_test

import (
	"iter"
	"math/rand/v2"
	"slices"

	"shellac/api"
)

// This file is a second carriage, which is looked at second by second: the tests compare the package with it.

// records returns the seconds of fronts and backs, in turns, as records.
func records(l ...int) []api.TrayRecord {
	var out []api.TrayRecord
	for i := 0; i < len(l); i += 2 {
		out = append(out, api.TrayRecord{Front: l[i], Back: l[i+1]})
	}
	return out
}

// presses returns sides and times, in turns, as presses.
func presses(l ...int) []api.TrayPress {
	var out []api.TrayPress
	for i := 0; i < len(l); i += 2 {
		out = append(out, api.TrayPress{Side: l[i], Time: l[i+1]})
	}
	return out
}

// plays returns sides and times, in turns, as plays.
func plays(l ...int) []api.TrayPlay {
	var out []api.TrayPlay
	for i := 0; i < len(l); i += 2 {
		out = append(out, api.TrayPlay{Side: l[i], Time: l[i+1]})
	}
	return out
}

func newTray(r []api.TrayRecord, at, way, step int, p []api.TrayPress) api.Tray {
	return api.Tray{Records: r, At: at, Way: way, Step: step, Presses: p}
}

func stand(at, way, side int) api.TrayStand { return api.TrayStand{At: at, Way: way, Side: side} }

// trayT and trayU are the trays of the chapter's examples.
func trayT() api.Tray {
	return newTray(records(100, 90, 120, 80, 60, 70), 0, 1, 5, presses(3, 0, 4, 10, 0, 12, 3, 50, 0, 300))
}

func trayU() api.Tray {
	return newTray(records(10, 20, 30, 40), 0, -1, 60, presses(3, 0))
}

// widest is a tray with all that the limits allow.
func widest() api.Tray {
	p := presses(11, 9999, 0, 9999, 5, 0, 5, 0, 6, 9998, 10, 9000, 1, 1, 2, 2, 3, 3, 4, 4, 7, 4999, 8, 9999)
	return newTray(slices.Repeat(records(999, 999), api.MaxTray), 5, -1, api.MaxTrayStep, p)
}

// watched is what is seen of a carriage that is looked at second by second.
type watched struct {
	plays  []api.TrayPlay
	stands []api.TrayStand // at each second, until it stands still for ever
	steps  int
	end    int
}

// at returns where the carriage was at a time.
func (w watched) at(time int) api.TrayStand { return w.stands[min(time, len(w.stands)-1)] }

// round returns all positions, as they come one after the other, with the sides that can be played there.
func round(count int) []api.TrayStand {
	var l []api.TrayStand
	for place := range count {
		l = append(l, stand(place, 1, 2*place))
	}
	for place := count - 1; place >= 0; place-- {
		l = append(l, stand(place, -1, 2*place+1))
	}
	return l
}

// lasts returns the seconds of a side.
func lasts(t api.Tray, side int) int {
	r := t.Records[side/2]
	return []int{r.Front, r.Back}[side%2]
}

// watch looks at a carriage second by second. It also takes more presses than a tray can have.
func watch(t api.Tray) (w watched) {
	l := round(len(t.Records))
	here := slices.IndexFunc(l, func(s api.TrayStand) bool { return s.At == t.At && s.Way == t.Way })
	set := map[int]bool{}
	playing, coming, left := false, false, 0
	for now := 0; ; now++ {
		later := false
		for _, p := range t.Presses {
			if p.Time == now {
				set[p.Side] = true
			}
			later = later || p.Time > now
		}
		left = max(0, left-1)
		for left == 0 && (coming || playing || len(set) > 0) {
			next := (here + 1) % len(l)
			way := 0
			if l[next].At != l[here].At {
				way = 1
			}
			switch {
			case coming:
				here, coming, w.steps = next, false, w.steps+way
			case !playing && set[l[here].Side]:
				delete(set, l[here].Side)
				playing, left = true, lasts(t, l[here].Side)
				w.plays = append(w.plays, api.TrayPlay{Side: l[here].Side, Time: now})
				w.end = now + left
			default:
				playing, coming, left = false, true, way*t.Step
			}
		}
		seen := l[here]
		if !playing {
			seen.Side = -1
		}
		w.stands = append(w.stands, seen)
		if !later && left == 0 {
			return w
		}
	}
}

// servedBy returns the number of the play that serves a press, or -1.
func (w watched) servedBy(p api.TrayPress) int {
	for i, x := range w.plays {
		if x.Side == p.Side && x.Time >= p.Time {
			return i
		}
	}
	return -1
}

// waits returns how many seconds a press waits.
func (w watched) waits(p api.TrayPress) int { return w.plays[w.servedBy(p)].Time - p.Time }

// with returns a tray with one more press, which stands last.
func with(t api.Tray, p api.TrayPress) api.Tray {
	t.Presses = append(slices.Clone(t.Presses), p)
	return t
}

// latestBy tries one more press at each second, and returns the latest one that is in time, or -1.
func latestBy(t api.Tray, side, by int) int {
	last := -1
	for time := range by + 1 {
		p := api.TrayPress{Side: side, Time: time}
		if time+watch(with(t, p)).waits(p) <= by {
			last = time
		}
	}
	return last
}

// orders are all orders of so many numbers.
func orders(count int) [][]int {
	if count == 0 {
		return [][]int{{}}
	}
	var all [][]int
	for _, shorter := range orders(count - 1) {
		for i := range count {
			all = append(all, slices.Insert(slices.Clone(shorter), i, count-1))
		}
	}
	return all
}

// stoodIn returns a tray whose records stand in another order: for each place, where the record stood.
func stoodIn(t api.Tray, order []int) api.Tray {
	out := newTray(nil, t.At, t.Way, t.Step, nil)
	for _, from := range order {
		out.Records = append(out.Records, t.Records[from])
	}
	for _, p := range t.Presses {
		out.Presses = append(out.Presses, api.TrayPress{Side: 2*slices.Index(order, p.Side/2) + p.Side%2, Time: p.Time})
	}
	return out
}

// soonestBy returns the least end of all orders.
func soonestBy(t api.Tray) int {
	least := -1
	for _, order := range orders(len(t.Records)) {
		if end := watch(stoodIn(t, order)).end; least < 0 || end < least {
			least = end
		}
	}
	return least
}

// smallTrays are all trays of at most two records with at most two presses at some times.
func smallTrays() iter.Seq[api.Tray] {
	return func(yield func(api.Tray) bool) {
		for _, r := range [][]api.TrayRecord{records(1, 2), records(3, 1), records(1, 2, 2, 1), records(2, 1, 4, 3)} {
			var one []api.TrayPress
			for side := range 2 * len(r) {
				for time := range 5 {
					one = append(one, api.TrayPress{Side: side, Time: time})
				}
			}
			lists := [][]api.TrayPress{nil}
			for i, p := range one {
				lists = append(lists, []api.TrayPress{p})
				for _, q := range one[i:] {
					lists = append(lists, []api.TrayPress{q, p})
				}
			}
			for i := range 6 * len(r) {
				for _, l := range lists {
					if !yield(newTray(r, i/6, i%2*2-1, i/2%3, l)) {
						return
					}
				}
			}
		}
	}
}

// limits is what drawn trays have at most.
type limits struct{ count, song, step, presses, clock int }

var (
	// few are trays that are quickly looked at.
	few = limits{count: 4, song: 9, step: 3, presses: 6, clock: 40}
	// busy are trays in which many sides are asked for while others are played.
	busy = limits{count: api.MaxTray, song: 20, step: 5, presses: api.MaxPresses, clock: 120}
	// full are trays up to the limits.
	full = limits{count: api.MaxTray, song: api.MaxSong, step: api.MaxTrayStep, presses: api.MaxPresses, clock: api.MaxClock}
)

// drawn are so many trays, the same ones in each run.
func drawn(count int, m limits) iter.Seq2[api.Tray, *rand.Rand] {
	return func(yield func(api.Tray, *rand.Rand) bool) {
		draw := rand.New(rand.NewPCG(2, uint64(m.clock)))
		for range count {
			var r []api.TrayRecord
			for range 1 + draw.IntN(m.count) {
				r = append(r, api.TrayRecord{Front: 1 + draw.IntN(m.song), Back: 1 + draw.IntN(m.song)})
			}
			t := newTray(r, draw.IntN(len(r)), draw.IntN(2)*2-1, draw.IntN(m.step+1), nil)
			for range draw.IntN(m.presses + 1) {
				t.Presses = append(t.Presses, drawPress(draw, t, m.clock))
			}
			if !yield(t, draw) {
				return
			}
		}
	}
}

// drawPress draws a press of a tray up to a time.
func drawPress(draw *rand.Rand, t api.Tray, clock int) api.TrayPress {
	return api.TrayPress{Side: draw.IntN(2 * len(t.Records)), Time: draw.IntN(clock + 1)}
}
