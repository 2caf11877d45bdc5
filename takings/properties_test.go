package takings_test

import (
	"math/rand/v2"
	"slices"
	"testing"

	"shellac/api"
	"shellac/coins"
	"shellac/takings"
)

// eachDrawn does something with drawn boxes of all sizes.
func eachDrawn(count int, do func(b api.Box, draw *rand.Rand)) {
	for _, l := range []limits{few, dear, many} {
		for b, draw := range drawn(count, l) {
			do(b, draw)
		}
	}
}

// can returns Can of a valid box.
func can(t *testing.T, b api.Box) []int {
	t.Helper()
	l, e := takings.Can(b)
	if e != api.OK || len(l) == 0 || !slices.IsSorted(l) || len(slices.Compact(slices.Clone(l))) != len(l) {
		t.Fatalf("Can of %v = %v, %d", b, l, e)
	}
	return l
}

// missing returns Missing of a valid box, or -1 if there is no explanation.
func missing(t *testing.T, b api.Box) int {
	t.Helper()
	cents, e := takings.Missing(b)
	if e == api.ErrNone {
		return -1
	}
	if e != api.OK {
		t.Errorf("Missing of %v: %d", b, e)
	}
	return cents
}

// cash returns Cash of a valid box.
func cash(t *testing.T, b api.Box) (out, house, slugs int) {
	t.Helper()
	out, house, slugs, e := takings.Cash(b)
	if e != api.OK {
		t.Errorf("Cash of %v: %d", b, e)
	}
	return out, house, slugs
}

// P5.10 (each way): what a way buys is in Can, whose ends are Least and Most.
func TestEachWay(t *testing.T) {
	eachDrawn(60, func(b api.Box, draw *rand.Rand) {
		l := can(t, b)
		least, e := coins.Least(b.Wheel, inside(b))
		most, f := coins.Most(b.Wheel, inside(b))
		if e != api.OK || f != api.OK || l[0] != least || l[len(l)-1] != most {
			t.Errorf("Can of %v = %v; Least is %d, %d, Most %d, %d", b, l, least, e, most, f)
		}
		for range 30 {
			way := drawWay(draw, inside(b))
			if plays := boughtBy(b.Wheel, way); !slices.Contains(l, plays) {
				t.Errorf("%v buys %d, but Can of %v is %v", way, plays, b, l)
			}
		}
	})
}

// P5.11 (missing): Missing is 0 just if Can has a number that can be shown; no explanation is worth less, Explain is worth as much.
func TestMissing(t *testing.T) {
	explained, gone := 0, 0
	eachDrawn(60, func(b api.Box, draw *rand.Rand) {
		cents := missing(t, b)
		if cents > 0 {
			gone++
		}
		shown := slices.ContainsFunc(can(t, b), func(n int) bool { return canShow(b, n) })
		if shown != (cents == 0) {
			t.Errorf("Missing of %v = %d; Can is %v", b, cents, can(t, b))
		}
		purse, acts, e := takings.Explain(b)
		if (e == api.OK) != (cents >= 0) || cents >= 0 && (!explains(b, purse, acts) || worthOf(b.Wheel, purse) != cents) {
			t.Errorf("Missing of %v = %d; Explain is %v, %v, %d", b, cents, purse, acts, e)
		}
		for range 40 {
			purse := make([]int, len(b.Found))
			for range draw.IntN(api.MaxMissing + 1) {
				purse[draw.IntN(len(purse))]++
			}
			way := drawWay(draw, together(inside(b), purse))
			if !canShow(b, boughtBy(b.Wheel, way)) {
				continue
			}
			explained++
			if worth := worthOf(b.Wheel, purse); cents < 0 || worth < cents {
				t.Errorf("%v and %v, worth %d, explain %v; Missing is %d", purse, way, worth, b, cents)
			}
		}
	})
	if explained < 500 || gone < 30 {
		t.Errorf("only %d explanations, %d boxes of which something is missing", explained, gone)
	}
}

// P5.12 (slugs): if a slug turns out to be a coin, Can and Missing are the same, and the takings greater by its worth.
func TestSlugs(t *testing.T) {
	turned := 0
	eachDrawn(60, func(b api.Box, draw *rand.Rand) {
		for kind, n := range b.Slugs {
			if n == 0 {
				continue
			}
			turned++
			other := with(b, func(b *api.Box) {
				b.Slugs[kind]--
				b.Found[kind]++
			})
			if !slices.Equal(can(t, b), can(t, other)) || missing(t, b) != missing(t, other) {
				t.Errorf("of %v: %v, %d; of %v: %v, %d", b, can(t, b), missing(t, b), other, can(t, other), missing(t, other))
			}
			worth := b.Wheel.Coins[kind]
			out, house, slugs := cash(t, b)
			otherOut, otherHouse, otherSlugs := cash(t, other)
			if otherOut != out+worth || otherHouse != house || otherSlugs != slugs-worth {
				t.Errorf("Cash of %v: %d, %d, %d, of %v: %d, %d, %d", b, out, house, slugs, other, otherOut, otherHouse, otherSlugs)
			}
		}
	})
	if turned < 50 {
		t.Errorf("only %d slugs", turned)
	}
}

// P5.13 (more skips): with more Skips Missing is not greater, and an explanation is one still.
func TestMoreSkips(t *testing.T) {
	less := 0
	eachDrawn(30, func(b api.Box, draw *rand.Rand) {
		before := missing(t, skips(b, 0))
		for n := 1; n <= api.MaxSkips; n++ {
			cents := missing(t, skips(b, n))
			if before >= 0 && (cents < 0 || cents > before) {
				t.Errorf("Missing of %v with Skips %d: %d, with one less %d", b, n, cents, before)
			}
			if cents != before {
				less++
			}
			before = cents
		}
	})
	if less < 10 {
		t.Errorf("only %d times Skips mattered", less)
	}
}

// P5.14 (cash): takings and house are the worth of all coins found; if more of them are marked, only these two change.
func TestMarked(t *testing.T) {
	eachDrawn(60, func(b api.Box, draw *rand.Rand) {
		out, house, slugs := cash(t, b)
		if out+house != worthOf(b.Wheel, b.Found) || house != worthOf(b.Wheel, b.Marked) || slugs != worthOf(b.Wheel, b.Slugs) {
			t.Errorf("Cash of %v = %d, %d, %d", b, out, house, slugs)
		}
		all := with(b, func(b *api.Box) { b.Marked = slices.Clone(b.Found) })
		allOut, allHouse, allSlugs := cash(t, all)
		if allOut != 0 || allHouse != out+house || allSlugs != slugs {
			t.Errorf("Cash of %v = %d, %d, %d", all, allOut, allHouse, allSlugs)
		}
		if said(b) != said(all) {
			t.Errorf("of %v: %s; of %v: %s", b, said(b), all, said(all))
		}
	})
}

// P5.15 (skipped or short): at most one of them is above 0; with Skips as Skipped says nothing is missing.
func TestSkippedOrShort(t *testing.T) {
	skipped, short := 0, 0
	eachDrawn(80, func(b api.Box, draw *rand.Rand) {
		more, e := takings.Skipped(b)
		less, f := takings.Short(b)
		if f != api.OK || more > 0 && less > 0 || (e == api.ErrNone) != (less > 0) {
			t.Errorf("of %v: Skipped = %d, %d; Short = %d, %d", b, more, e, less, f)
		}
		if more > 0 {
			skipped++
		}
		if less > 0 {
			short++
		}
		if e != api.OK || more > api.MaxSkips {
			return
		}
		if cents := missing(t, skips(b, more)); cents != 0 {
			t.Errorf("Missing of %v with Skips %d = %d", b, more, cents)
		}
		if more > 0 && missing(t, skips(b, more-1)) == 0 {
			t.Errorf("nothing is missing of %v with Skips %d, fewer than Skipped", b, more-1)
		}
	})
	if skipped < 20 || short < 20 {
		t.Errorf("only %d registers skipped plays, %d are short", skipped, short)
	}
}

// P5.16 (sums): Sum of two lists together is the sum of both; Sum of one box is what Cash and Missing say.
func TestSums(t *testing.T) {
	draw := rand.New(rand.NewPCG(5, 16))
	bad := 0
	for range 60 {
		var l []api.Box
		for range draw.IntN(api.MaxBoxes + 1) {
			l = append(l, drawBox(draw, few))
		}
		cut := draw.IntN(len(l) + 1)
		all, first, last := sumOf(t, l), sumOf(t, l[:cut]), sumOf(t, l[cut:])
		var singly [3]int
		for _, b := range l {
			out, _, _ := cash(t, b)
			cents := missing(t, b)
			singly[0] += out
			if cents < 0 {
				singly[2]++
				continue
			}
			singly[1] += cents
		}
		for i, n := range all {
			if n != first[i]+last[i] || n != singly[i] {
				t.Errorf("Sum of %v = %v, of parts up to %d: %v and %v, singly: %v", l, all, cut, first, last, singly)
			}
		}
		bad += all[2]
	}
	if bad < 10 {
		t.Errorf("only %d boxes cannot be explained", bad)
	}
}

func sumOf(t *testing.T, l []api.Box) [3]int {
	t.Helper()
	cash, missing, bad, e := takings.Sum(l)
	if e != api.OK {
		t.Errorf("Sum of %v: %d", l, e)
	}
	return [3]int{cash, missing, bad}
}
