package wear

import (
	"slices"

	"shellac/api"
)

// valid returns whether a box is valid.
func valid(w api.Wear) bool {
	return isFrom(0, w.Weeks, api.MaxWearWeeks) &&
		isPrice(w.Price) &&
		isFrom(0, w.Age, api.MaxAge) &&
		isFrom(1, w.Step, api.MaxNeedle) &&
		isRough(w.Rough) &&
		len(w.Records) <= api.MaxWearRecords &&
		every(w.Records, func(r api.WearRecord) bool { return isRecord(r, w.Weeks) })
}

// isRough returns whether numbers say by how much a needle wears records as it becomes rougher.
func isRough(rough []int) bool {
	return isFrom(1, len(rough), api.MaxRough) &&
		every(rough, func(n int) bool { return isFrom(0, n, api.MaxGrind) }) &&
		slices.IsSorted(rough)
}

// isRecord returns whether a record is one of a box with so many weeks.
func isRecord(r api.WearRecord, weeks int) bool {
	return isFrom(0, r.Worn, api.MaxWorn) &&
		isFrom(0, r.Limit, api.MaxWorn) &&
		isPrice(r.Price) &&
		len(r.Plays) == weeks &&
		every(r.Plays, func(n int) bool { return isFrom(0, n, api.MaxPlayed) })
}

func isPrice(price int) bool {
	return isFrom(0, price, api.MaxPrice)
}

// checkPlan returns ErrWear unless a box is valid, and ErrArg unless a plan is one of it.
func checkPlan(w api.Wear, plan []api.WearWeek) api.Errno {
	if !valid(w) {
		return api.ErrWear
	}
	isWeek := func(week api.WearWeek) bool {
		return isFrom(0, week.Needle, 1) && ascend(week.Records, len(w.Records)-1)
	}
	if len(plan) != w.Weeks || !every(plan, isWeek) {
		return api.ErrArg
	}
	return api.OK
}

// isFrom returns whether a number is from low to high.
func isFrom(low, n, high int) bool {
	return low <= n && n <= high
}

// ascend returns whether numbers are strictly ascending, from 0 to high.
func ascend(list []int, high int) bool {
	least := 0
	for _, n := range list {
		if !isFrom(least, n, high) {
			return false
		}
		least = n + 1
	}
	return true
}

// every returns whether something is so of all elements of a list.
func every[T any](list []T, isSo func(T) bool) bool {
	for _, element := range list {
		if !isSo(element) {
			return false
		}
	}
	return true
}
