package tray

import (
	"slices"
	"sort"

	"shellac/api"
)

// latest returns the latest time at which one more press of a side is served up to the time by, and whether there is one.
func latest(t api.Tray, side, by int) (time int, ok bool) {
	// A later press is not served earlier, so that all times from some time on are too late: until the earlier press is served,
	// within one round, the carriage is nowhere later than for the later press, since whatever it plays on its way
	// was pressed before it came there, and is also played there if it comes later.
	tooLate := sort.Search(by+1, func(time int) bool {
		return begins(t, api.TrayPress{Side: side, Time: time}) > by
	})
	return tooLate - 1, tooLate > 0
}

// begins returns when the play begins that serves one more press.
func begins(t api.Tray, more api.TrayPress) int {
	t.Presses = slices.Concat(t.Presses, []api.TrayPress{more})
	_, wait := deedsOf(t).service(more)
	return more.Time + wait
}
