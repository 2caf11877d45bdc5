package pulses_test

import (
	"fmt"
	"iter"
	"math/rand/v2"
	"regexp"
	"slices"

	"shellac/api"
)

// This file is a second look at trains: pulses are written down as signs, and the text is held against a pattern, for each set of sparks; the tests compare the package with it.

// train is a train of the box of the chapter's examples.
func train(sparks int, times ...int) api.Pulse {
	return api.Pulse{Letters: 3, Numbers: 4, Pitch: 10, Slack: 2, Gap: 30, Pause: 100, Sparks: sparks, Times: times}
}

// trainT and trainU are the trains of the chapter's examples.
func trainT() api.Pulse { return train(1, 0, 10, 40, 50, 60) }
func trainU() api.Pulse { return train(1, 0, 30, 50) }

// widest is a train with all that the limits allow, and no pulses.
func widest() api.Pulse {
	return api.Pulse{Letters: api.MaxButtons, Numbers: api.MaxButtons, Pitch: api.MaxPitch, Slack: api.MaxPitch - 1, Gap: 2 * api.MaxPitch, Pause: api.MaxPause, Sparks: api.MaxSparks}
}

// closest is a train with the least numbers, and no pulses.
func closest() api.Pulse { return api.Pulse{Letters: 1, Numbers: 1, Pitch: 1, Gap: 2, Pause: 3} }

// sparked returns a train that can have so many sparks.
func sparked(p api.Pulse, most int) api.Pulse {
	p.Sparks = most
	return p
}

// timed returns a train with other times.
func timed(p api.Pulse, times ...int) api.Pulse {
	p.Times = times
	return p
}

// after returns times at some distances, the first one of them from 0.
func after(distances ...int) []int {
	at, times := 0, []int(nil)
	for _, d := range distances {
		at += d
		times = append(times, at)
	}
	return times
}

// copied returns a train that shares no memory with another one.
func copied(p api.Pulse) api.Pulse {
	p.Times = slices.Clone(p.Times)
	return p
}

// without returns a train without some pulses.
func without(p api.Pulse, pulses ...int) api.Pulse {
	p = copied(p)
	for i := len(p.Times) - 1; i >= 0; i-- {
		if slices.Contains(pulses, i) {
			p.Times = slices.Delete(p.Times, i, i+1)
		}
	}
	return p
}

// signs writes a train down, each pulse as a sign of how far it is from the one before.
func signs(p api.Pulse) string {
	text := ""
	for i, at := range p.Times {
		switch {
		case i == 0 || at-p.Times[i-1] >= p.Pause:
			text += "/"
		case at-p.Times[i-1] >= p.Gap:
			text += "-"
		case p.Pitch-p.Slack <= at-p.Times[i-1] && at-p.Times[i-1] <= p.Pitch+p.Slack:
			text += "."
		default:
			text += "?"
		}
	}
	return text
}

// pattern is what the signs of clean pulses look like.
func pattern(p api.Pulse) *regexp.Regexp {
	return regexp.MustCompile(fmt.Sprintf(`^(/\.{0,%d}-\.{0,%d})*$`, p.Letters-1, p.Numbers-1))
}

var pair = regexp.MustCompile(`/(\.*)-(\.*)`)

// listBy returns the list of the signs of clean pulses.
func listBy(p api.Pulse, text string) []int {
	var list []int
	for _, found := range pair.FindAllStringSubmatch(text, -1) {
		list = append(list, number(p, len(found[1]), len(found[2])))
	}
	return list
}

// number returns the selection of a letter and a number, counted along all selections.
func number(p api.Pulse, letter, number int) int {
	selection := 0
	for l := range p.Letters {
		for n := range p.Numbers {
			if l == letter && n == number {
				return selection
			}
			selection++
		}
	}
	return -1
}

// sparkSets are all sets of at most three pulses.
func sparkSets(pulses int) iter.Seq[[]int] {
	return func(yield func([]int) bool) {
		// the number of pulses stands for no pulse
		for a := range pulses + 1 {
			for b := a; b <= pulses; b++ {
				for c := b; c <= pulses; c++ {
					set := slices.DeleteFunc([]int{a, b, c}, func(i int) bool { return i == pulses })
					if len(slices.Compact(slices.Clone(set))) == len(set) && !yield(set) {
						return
					}
				}
			}
		}
	}
}

// heard is a reading.
type heard struct{ sparks, list []int }

// hear returns all readings of a train, if it has at most so many sparks.
func hear(p api.Pulse, most int) []heard {
	var all []heard
	clean := pattern(p)
	for set := range sparkSets(len(p.Times)) {
		if len(set) > most {
			continue
		}
		if text := signs(without(p, set...)); clean.MatchString(text) {
			all = append(all, heard{set, listBy(p, text)})
		}
	}
	return all
}

// times returns how often a number is in a list.
func times(list []int, n int) int {
	return len(list) - len(slices.DeleteFunc(slices.Clone(list), func(m int) bool { return m == n }))
}

// seen is what is heard in all readings of a train.
type seen struct {
	many, lists  int
	list         []int // if there is one list
	asked        []api.Span
	real, sparks []int
}

// look sums up some readings of a train.
func look(p api.Pulse, all []heard) seen {
	s := seen{many: len(all), list: all[0].list}
	different := map[string]bool{}
	for _, h := range all {
		different[fmt.Sprint(h.list)] = true
	}
	s.lists = len(different)
	for selection := range p.Letters * p.Numbers {
		var often []int
		for _, h := range all {
			often = append(often, times(h.list, selection))
		}
		s.asked = append(s.asked, api.Span{Low: slices.Min(often), High: slices.Max(often)})
	}
	for i := range p.Times {
		isSpark := func(h heard) bool { return slices.Contains(h.sparks, i) }
		if !slices.ContainsFunc(all, isSpark) {
			s.real = append(s.real, i)
		}
		if !slices.ContainsFunc(all, func(h heard) bool { return !isSpark(h) }) {
			s.sparks = append(s.sparks, i)
		}
	}
	return s
}

// limits is what drawn trains have at most.
type limits struct{ letters, numbers, pitch, pulses int }

var (
	few  = limits{2, 2, 3, 7}
	some = limits{4, 3, 20, 14}
	full = limits{api.MaxButtons, api.MaxButtons, api.MaxPitch, api.MaxPulses}
)

// drawn are so many trains, the same ones in each run.
func drawn(count int, l limits) iter.Seq2[api.Pulse, *rand.Rand] {
	return func(yield func(api.Pulse, *rand.Rand) bool) {
		draw := rand.New(rand.NewPCG(13, uint64(l.pulses)))
		for range count {
			if !yield(drawTrain(draw, l), draw) {
				return
			}
		}
	}
}

// eachDrawn does something with drawn trains of all sizes.
func eachDrawn(count int, do func(p api.Pulse, draw *rand.Rand)) {
	for _, l := range []limits{few, some, full} {
		for p, draw := range drawn(count, l) {
			do(p, draw)
		}
	}
}

// drawBox draws a train without pulses.
func drawBox(draw *rand.Rand, l limits) api.Pulse {
	p := api.Pulse{Letters: 1 + draw.IntN(l.letters), Numbers: 1 + draw.IntN(l.numbers), Pitch: 1 + draw.IntN(l.pitch), Sparks: draw.IntN(api.MaxSparks + 1)}
	p.Slack = draw.IntN(p.Pitch)
	p.Gap = p.Pitch + p.Slack + 1 + draw.IntN(p.Pitch)
	p.Pause = p.Gap + 1 + draw.IntN(3*p.Gap)
	return p
}

// drawList draws a list of selections that has not more than so many pulses.
func drawList(draw *rand.Rand, p api.Pulse, pulses int) []int {
	var list []int
	for draw.IntN(8) > 0 {
		letter, n := draw.IntN(p.Letters), draw.IntN(p.Numbers)
		if pulses -= letter + n + 2; pulses < 0 {
			break
		}
		list = append(list, number(p, letter, n))
	}
	return list
}

// drawTrain draws a train, most of whose pulses are ones of selections.
func drawTrain(draw *rand.Rand, l limits) api.Pulse {
	p := drawBox(draw, l)
	sparks := draw.IntN(api.MaxSparks + 2)
	var distances []int
	for _, selection := range drawList(draw, p, l.pulses-sparks) {
		distances = append(distances, p.Pause+draw.IntN(20))
		for range selection / p.Numbers {
			distances = append(distances, p.Pitch-p.Slack+draw.IntN(2*p.Slack+1))
		}
		distances = append(distances, p.Gap+draw.IntN(p.Pause-p.Gap))
		for range selection % p.Numbers {
			distances = append(distances, p.Pitch-p.Slack+draw.IntN(2*p.Slack+1))
		}
	}
	p.Times = after(distances...)
	if draw.IntN(6) == 0 && len(p.Times) > 0 {
		p = without(p, draw.IntN(len(p.Times)))
	}
	for range sparks {
		p = drawPulse(draw, p)
	}
	return p
}

// drawPulse draws one more pulse for a train, near to some other one, if there can be one then.
func drawPulse(draw *rand.Rand, p api.Pulse) api.Pulse {
	at := draw.IntN(200)
	if len(p.Times) > 0 {
		near := []int{p.Pitch + 1, p.Gap, p.Pause + 1}[draw.IntN(3)]
		at = p.Times[draw.IntN(len(p.Times))] - near + draw.IntN(2*near)
	}
	i, is := slices.BinarySearch(p.Times, at)
	if is || at < 0 || at > api.MaxTime {
		return p
	}
	p.Times = slices.Insert(slices.Clone(p.Times), i, at)
	return p
}
