package clerk

import (
	"slices"

	"shellac/api"
	"shellac/coins"
	"shellac/takings"
	"shellac/tray"
)

// bar is a bar at work.
type bar api.Bar

// valid returns whether a bar is valid.
func valid(b api.Bar) bool {
	// without acts coins.Run says only whether the wheel and the stand are valid
	_, _, e := coins.Run(b.Box.Wheel, b.Stand, nil)
	return e == api.OK && takings.Check(b.Box) == api.OK && tray.Check(b.Tray) == api.OK
}

// copied returns a bar that shares no memory with another one.
func copied(b bar) bar {
	b.Box.Wheel.Notches = slices.Clone(b.Box.Wheel.Notches)
	b.Box.Wheel.Coins = slices.Clone(b.Box.Wheel.Coins)
	b.Box.Found = slices.Clone(b.Box.Found)
	b.Box.Marked = slices.Clone(b.Box.Marked)
	b.Box.Slugs = slices.Clone(b.Box.Slugs)
	b.Tray.Records = slices.Clone(b.Tray.Records)
	b.Tray.Presses = slices.Clone(b.Tray.Presses)
	return b
}
