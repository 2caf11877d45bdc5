package clerk

import (
	"slices"

	"shellac/api"
	"shellac/coins"
)

// selection is the act of a wheel that uses a play.
const selection = -1

func (b *bar) coin(numbers []int) bool { return b.put(numbers[0], b.Box.Found) }

func (b *bar) mark(numbers []int) bool { return b.put(numbers[0], b.Box.Found, b.Box.Marked) }

func (b *bar) slug(numbers []int) bool { return b.put(numbers[0], b.Box.Slugs) }

// put turns the wheel by a coin of a kind, and lays it into some purses.
func (b *bar) put(kind int, purses ...[]int) bool {
	if !b.isKind(kind) {
		return false
	}
	after, _, _ := coins.Run(b.Box.Wheel, b.Stand, []int{kind})
	b.Box.Plays += after.Credit - b.Stand.Credit
	b.Stand = after
	for _, purse := range purses {
		purse[kind]++
	}
	return true
}

// isKind returns whether a number is a kind of coin. It has to be asked before a wheel is turned, for which -1 is a selection.
func (b *bar) isKind(kind int) bool { return 0 <= kind && kind < len(b.Box.Wheel.Coins) }

func (b *bar) press(numbers []int) bool {
	side, time := numbers[0], numbers[1]
	if slices.ContainsFunc(b.Tray.Presses, func(p api.TrayPress) bool { return p.Time > time }) {
		return false
	}
	after, made, _ := coins.Run(b.Box.Wheel, b.Stand, []int{selection})
	b.Stand = after
	b.Tray.Presses = append(b.Tray.Presses, api.TrayPress{Side: side, Time: time})
	return made > 0
}

func (b *bar) lose(numbers []int) bool {
	kind := numbers[0]
	if !b.isKind(kind) {
		return false
	}
	b.Box.Found[kind]--
	return true
}

func (b *bar) skips(numbers []int) bool {
	b.Box.Skips = numbers[0]
	return true
}

// empty takes all coins and slugs out of the box, and sets the register back.
func (b *bar) empty([]int) bool {
	if b.Stand != (api.Stand{}) {
		return false
	}
	clear(b.Box.Found)
	clear(b.Box.Marked)
	clear(b.Box.Slugs)
	b.Box.Plays = 0
	return true
}
