package royalties

import (
	"cmp"
	"slices"

	"shellac/api"
)

// hundred is how many parts a side has.
const hundred = 100

// claims is how much of any Pool is whose: for each writer how many hundredths of plays belong to the writer, and how many there are.
type claims struct {
	each []int
	all  int
}

// claimsOf returns the claims of a valid royal.
func claimsOf(r api.Royal) claims {
	c := claims{each: make([]int, len(r.Owed))}
	for _, side := range r.Sides {
		c.all += side.Plays * hundred
		for _, part := range side.Parts {
			c.each[part.Who] += side.Plays * part.Percent
		}
	}
	return c
}

// shares returns the share that each writer has of a pool.
func (c claims) shares(pool int) []int {
	cents := make([]int, len(c.each))
	left := pool
	for who, claim := range c.each {
		cents[who] = pool * claim / c.all
		left -= cents[who]
	}
	// All rests together are the cents left, and each is less than a cent: so nobody without a rest gets one.
	for _, who := range c.byRests(pool)[:left] {
		cents[who]++
	}
	return cents
}

// byRests returns all writers by the rests of their exact parts of a pool, the greatest one first, and of equal ones by their numbers.
func (c claims) byRests(pool int) []int {
	writers := make([]int, len(c.each))
	for who := range writers {
		writers[who] = who
	}
	slices.SortFunc(writers, func(a, b int) int {
		return cmp.Or(cmp.Compare(c.rest(pool, b), c.rest(pool, a)), cmp.Compare(a, b))
	})
	return writers
}

// rest returns by how much the exact part of a writer is above whole cents; rests can be compared, since all are divided by the same number.
func (c claims) rest(pool, who int) int {
	return pool * c.each[who] % c.all
}

// settledAlone returns what all writers would get together if each side was settled alone.
func settledAlone(r api.Royal, plays int) int {
	cents := 0
	for _, side := range r.Sides {
		money := r.Pool * side.Plays / plays
		for _, part := range side.Parts {
			cents += money * part.Percent / hundred
		}
	}
	return cents
}

// lowest returns a fraction in lowest terms; its lower number is at least 1.
func lowest(num, den int) (int, int) {
	a, b := num, den
	for b > 0 {
		a, b = b, a%b
	}
	return num / a, den / a
}
