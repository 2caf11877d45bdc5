package tray

import (
	"math"
	"slices"

	"shellac/api"
)

const (
	// noSide is played while nothing is played.
	noSide = -1
	// never is the time of what does not happen any more.
	never = math.MaxInt
)

// pins is for each side whether its pin is set.
type pins [2 * api.MaxTray]bool

// deeds is what a carriage does.
type deeds struct {
	api.TrayStand
	plays []api.TrayPlay
	steps int // how often it went from a record to the next one
	end   int // when the last side that it began to play has ended
}

// carriage is a carriage at work on a valid tray.
type carriage struct {
	deeds
	tray  api.Tray
	set   pins
	heard int  // the time up to which presses have set their pins
	time  int  // when it does the next thing
	going bool // whether it is between the record that it has left and the next one
}

// newCarriage returns the carriage of a valid tray before it does anything.
func newCarriage(t api.Tray) *carriage {
	start := deeds{TrayStand: api.TrayStand{At: t.At, Way: t.Way, Side: noSide}}
	return &carriage{deeds: start, tray: t, heard: -1}
}

// deedsOf returns all that the carriage of a valid tray does.
func deedsOf(t api.Tray) deeds {
	c := newCarriage(t)
	c.run(never)
	return c.deeds
}

// run does all that happens before a time.
func (c *carriage) run(before int) {
	for c.time < before {
		c.hear()
		c.act()
	}
}

// hear sets the pins of all presses up to now.
func (c *carriage) hear() {
	for _, p := range c.tray.Presses {
		if c.heard < p.Time && p.Time <= c.time {
			c.set[p.Side] = true
		}
	}
	c.heard = c.time
}

// act does the next thing.
func (c *carriage) act() {
	switch side := c.reached(); {
	case c.going:
		c.arrive()
	case c.Side != noSide:
		c.Side = noSide
		c.leave()
	case c.set == pins{}:
		c.time = c.nextPress()
	case c.set[side]:
		c.play(side)
	default:
		c.leave()
	}
}

// reached returns the side that can be played where the carriage stands.
func (c *carriage) reached() int {
	if c.Way == up {
		return 2 * c.At
	}
	return 2*c.At + 1
}

// leave turns around behind the last record, or sets out for the next one.
func (c *carriage) leave() {
	if !isFrom(0, c.At+c.Way, len(c.tray.Records)-1) {
		c.Way = -c.Way
		return
	}
	c.going = true
	c.time += c.tray.Step
}

func (c *carriage) arrive() {
	c.going = false
	c.At += c.Way
	c.steps++
}

func (c *carriage) play(side int) {
	c.set[side] = false
	c.Side = side
	c.plays = append(c.plays, api.TrayPlay{Side: side, Time: c.time})
	c.time += seconds(c.tray.Records[side/2], side)
	c.end = c.time
}

// seconds returns how long a side of a record lasts.
func seconds(r api.TrayRecord, side int) int {
	if side%2 == 0 {
		return r.Front
	}
	return r.Back
}

// nextPress returns the time of the next press, or never.
func (c *carriage) nextPress() int {
	next := never
	for _, p := range c.tray.Presses {
		if p.Time > c.time {
			next = min(next, p.Time)
		}
	}
	return next
}

// service returns the number of the play that serves a press, and how many seconds the press waits for it.
func (d deeds) service(p api.TrayPress) (play, wait int) {
	// There is always one: the pin stays set until its side is played, and the carriage does not stand still before.
	play = slices.IndexFunc(d.plays, func(x api.TrayPlay) bool {
		return x.Side == p.Side && x.Time >= p.Time
	})
	return play, d.plays[play].Time - p.Time
}

// longest returns the first press of those that wait longest.
func (d deeds) longest(presses []api.TrayPress) int {
	first, most := 0, -1
	for press, p := range presses {
		if _, wait := d.service(p); wait > most {
			first, most = press, wait
		}
	}
	return first
}
