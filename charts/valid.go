package charts

import (
	"shellac/api"
	"shellac/meters"
)

// valid returns whether a chart is valid.
func valid(c api.Chart) bool {
	if len(c.Meters) > api.MaxChart || len(c.Extra) != len(c.Meters) {
		return false
	}
	if !isFrom(0, c.From, c.To) || c.To > api.MaxMeterWeeks {
		return false
	}
	for title, m := range c.Meters {
		if meters.Check(m) != api.OK || c.To > len(m.Weeks) || !isFrom(0, c.Extra[title], api.MaxExtra) {
			return false
		}
	}
	return true
}

func isTitle(c api.Chart, title int) bool {
	return isFrom(0, title, len(c.Meters)-1)
}

// isRank returns whether a number is a rank of a title, or how many first titles there can be.
func isRank(c api.Chart, rank int) bool {
	return isFrom(1, rank, len(c.Meters))
}

// isFrom returns whether a number is from low to high.
func isFrom(low, n, high int) bool {
	return low <= n && n <= high
}
