package royalties

import "shellac/api"

// ask returns the claims of a royal; ErrRoyal unless it is valid, then ErrArg unless what else is asked about is, then ErrNone if nothing was played.
func ask(r api.Royal, others bool) (claims, api.Errno) {
	switch {
	case !valid(r):
		return claims{}, api.ErrRoyal
	case !others:
		return claims{}, api.ErrArg
	}
	c := claimsOf(r)
	if c.all == 0 {
		return claims{}, api.ErrNone
	}
	return c, api.OK
}

// valid returns whether a royal is valid.
func valid(r api.Royal) bool {
	if len(r.Owed) > api.MaxWriters || len(r.Sides) > api.MaxSides {
		return false
	}
	for _, owed := range r.Owed {
		if !isFrom(0, owed, api.MaxOwed) {
			return false
		}
	}
	for _, side := range r.Sides {
		if !isSide(r, side) {
			return false
		}
	}
	return isPool(r.Pool)
}

// isSide returns whether a side is one of a royal: each part of it has a writer, by ascending numbers, and nothing of it is nobody's.
func isSide(r api.Royal, side api.RoyalSide) bool {
	last, all := -1, 0
	for _, part := range side.Parts {
		if part.Who <= last || !isWriter(r, part.Who) || !isFrom(1, part.Percent, hundred) {
			return false
		}
		last = part.Who
		all += part.Percent
	}
	return all == hundred && isFrom(0, side.Plays, api.MaxHeard)
}

// isWriter returns whether a number is that of a writer of a royal.
func isWriter(r api.Royal, who int) bool { return isFrom(0, who, len(r.Owed)-1) }

func isPool(n int) bool { return isFrom(0, n, api.MaxPool) }

// isFrom returns whether a number is from low to high.
func isFrom(low, n, high int) bool {
	return low <= n && n <= high
}
