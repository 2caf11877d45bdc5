package royalties_test

import (
	"iter"
	"math/big"
	"math/rand/v2"
	"slices"

	"shellac/api"
)

// This file is a second look at royals, in which parts are exact fractions, and the cents that are left are given out one by one: the tests compare the package with it.

// royalQ is the royal of the chapter's examples.
func royalQ() api.Royal {
	return royal(100, owes(0, 40, 0), side(3, part(0, 50), part(1, 50)), side(1, part(1, 30), part(2, 70)))
}

func royal(pool int, owed []int, sides ...api.RoyalSide) api.Royal {
	return api.Royal{Pool: pool, Sides: sides, Owed: owed}
}

func owes(cents ...int) []int { return cents }

// debts is what so many writers owe: nothing.
func debts(writers int) []int { return make([]int, writers) }

func side(plays int, parts ...api.RoyalPart) api.RoyalSide {
	return api.RoyalSide{Plays: plays, Parts: parts}
}

func part(who, percent int) api.RoyalPart { return api.RoyalPart{Who: who, Percent: percent} }

// alone is a royal in which each side belongs to a writer of its own.
func alone(pool int, plays ...int) api.Royal {
	r := royal(pool, debts(len(plays)))
	for who, n := range plays {
		r.Sides = append(r.Sides, side(n, part(who, 100)))
	}
	return r
}

// widest is a royal with all that the limits allow.
func widest() api.Royal {
	r := royal(api.MaxPool, slices.Repeat([]int{api.MaxOwed}, api.MaxWriters))
	for range api.MaxSides {
		r.Sides = append(r.Sides, side(api.MaxHeard, part(0, 95), part(1, 1), part(2, 1), part(3, 1), part(4, 1), part(5, 1)))
	}
	return r
}

// with returns a royal with something changed.
func with(r api.Royal, change func(r *api.Royal)) api.Royal {
	r.Owed = slices.Clone(r.Owed)
	r.Sides = slices.Clone(r.Sides)
	for i := range r.Sides {
		r.Sides[i].Parts = slices.Clone(r.Sides[i].Parts)
	}
	change(&r)
	return r
}

// pools returns a royal with another Pool.
func pools(r api.Royal, pool int) api.Royal {
	r.Pool = pool
	return r
}

// heard returns how often all sides were played.
func heard(r api.Royal) int {
	n := 0
	for _, s := range r.Sides {
		n += s.Plays
	}
	return n
}

// exactBy returns the exact part of each writer: the money of each side, part by part.
func exactBy(r api.Royal) []*big.Rat {
	exact := make([]*big.Rat, len(r.Owed))
	for who := range exact {
		exact[who] = new(big.Rat)
	}
	for _, s := range r.Sides {
		for _, p := range s.Parts {
			money := moneyBy(r, s)
			exact[p.Who].Add(exact[p.Who], money.Mul(money, big.NewRat(int64(p.Percent), 100)))
		}
	}
	return exact
}

// moneyBy returns what of the Pool belongs to a side, not rounded.
func moneyBy(r api.Royal, s api.RoyalSide) *big.Rat {
	return big.NewRat(int64(r.Pool)*int64(s.Plays), int64(heard(r)))
}

// floor returns a number that is not below 0, rounded down.
func floor(x *big.Rat) int {
	return int(new(big.Int).Quo(x.Num(), x.Denom()).Int64())
}

// sharesBy gives out the Pool.
func sharesBy(r api.Royal) []int {
	cents := make([]int, len(r.Owed))
	rests := exactBy(r)
	left := r.Pool
	for who, rest := range rests {
		cents[who] = floor(rest)
		left -= cents[who]
		rest.Sub(rest, big.NewRat(int64(cents[who]), 1))
	}
	for ; left > 0; left-- {
		to := 0
		for who, rest := range rests {
			if rest.Cmp(rests[to]) > 0 {
				to = who
			}
		}
		cents[to]++
		rests[to].Sub(rests[to], big.NewRat(1, 1))
	}
	return cents
}

// paidBy and leftBy give each writer the share cent by cent: first it pays back what they owe.
func paidBy(r api.Royal) []int {
	paid, _ := repaidBy(r)
	return paid
}

func leftBy(r api.Royal) []int {
	_, owed := repaidBy(r)
	return owed
}

func repaidBy(r api.Royal) (paid, owed []int) {
	owed = slices.Clone(r.Owed)
	for who, share := range sharesBy(r) {
		paid = append(paid, 0)
		for range share {
			if owed[who] > 0 {
				owed[who]--
			} else {
				paid[who]++
			}
		}
	}
	return paid, owed
}

// lostBy returns what nobody gets if each side is settled alone.
func lostBy(r api.Royal) int {
	lost := r.Pool
	for _, s := range r.Sides {
		money := floor(moneyBy(r, s))
		for _, p := range s.Parts {
			lost -= floor(big.NewRat(int64(money)*int64(p.Percent), 100))
		}
	}
	return lost
}

// sharesOf returns the share of a writer with each Pool up to a number.
func sharesOf(r api.Royal, who, most int) []int {
	var all []int
	for pool := range most + 1 {
		all = append(all, sharesBy(pools(r, pool))[who])
	}
	return all
}

// leastBy returns the least Pool of some shares that is enough, -1 if none is.
func leastBy(shares []int, cents int) int {
	return slices.IndexFunc(shares, func(share int) bool { return share >= cents })
}

// oddBy returns the least Pool of some shares with which the share is less than with one cent less, -1 if there is none.
func oddBy(shares []int) int {
	for pool := range shares {
		if pool > 0 && shares[pool] < shares[pool-1] {
			return pool
		}
	}
	return -1
}

// limits is what drawn royals have at most.
type limits struct{ writers, sides, plays, pool, owed int }

var (
	// few are royals with few writers, sides and plays, so that rests are often equal.
	few = limits{writers: 3, sides: 3, plays: 3, pool: 30, owed: 20}
	// some are royals of many writers, whose shares now and then become less with a greater Pool.
	some = limits{writers: api.MaxWriters, sides: api.MaxSides, plays: 20, pool: 120, owed: 60}
	// full are royals up to the limits.
	full = limits{writers: api.MaxWriters, sides: api.MaxSides, plays: api.MaxHeard, pool: api.MaxPool, owed: api.MaxOwed}
)

// drawer draws royals, and what is asked of them, up to limits.
type drawer struct {
	*rand.Rand
	limits
}

// drawn are so many royals of which something was played, the same ones in each run.
func drawn(count int, l limits) iter.Seq2[api.Royal, drawer] {
	return func(yield func(api.Royal, drawer) bool) {
		draw := drawer{rand.New(rand.NewPCG(10, uint64(l.pool))), l}
		for range count {
			if !yield(draw.royal(), draw) {
				return
			}
		}
	}
}

// royal draws a royal with a writer and a side, or more; something was played.
func (d drawer) royal() api.Royal {
	r := royal(d.IntN(d.pool+1), nil)
	for range max(1+d.IntN(d.writers), 1+d.IntN(d.writers)) {
		r.Owed = append(r.Owed, min(1, d.IntN(3))*d.IntN(d.owed+1))
	}
	for range 1 + d.IntN(d.sides) {
		r.Sides = append(r.Sides, side(d.IntN(d.plays+1), d.parts(len(r.Owed))...))
	}
	if heard(r) == 0 {
		r.Sides[d.IntN(len(r.Sides))].Plays = 1
	}
	return r
}

// parts draws the parts of a side: all of it for one writer, or pieces for some.
func (d drawer) parts(writers int) []api.RoyalPart {
	owners := d.Perm(writers)[:1+d.IntN(writers)]
	slices.Sort(owners)
	var parts []api.RoyalPart
	before := 0
	for i, end := range d.ends(len(owners)) {
		parts = append(parts, part(owners[i], end-before))
		before = end
	}
	return parts
}

// ends draws where so many pieces of 100 end; they are alike, as far as they can be, or any ones.
func (d drawer) ends(count int) []int {
	ends := []int{100}
	alike := d.IntN(3) == 0
	for i, n := range d.Perm(99)[:count-1] {
		if alike {
			n = (i+1)*100/count - 1
		}
		ends = append(ends, n+1)
	}
	slices.Sort(ends)
	return ends
}
