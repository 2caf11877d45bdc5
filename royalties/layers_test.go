package royalties_test

import (
	"math/rand/v2"
	"testing"

	"shellac/api"
	"shellac/royalties"
	"shellac/shares"
	"shellac/tray"
)

// This file tests the promises about this layer and others together.

// drawContract draws a contract by which the operator gets something of most takings.
func drawContract(draw *rand.Rand) api.Share {
	s := api.Share{Loan: draw.IntN(2000)}
	for range draw.IntN(api.MaxClauses + 1) {
		s.Clauses = append(s.Clauses, api.Clause{
			Kind: 1 + draw.IntN(5), Cents: draw.IntN(1000), Part: draw.IntN(api.MaxPart + 1), More: draw.IntN(api.MaxPart + 1),
		})
	}
	return s
}

// P0.14 (each cent of the takings): if what the operator gets of the takings of a week, but what pays back the loan, is the Pool, all shares together, what the owner gets, and what is repaid, are just the takings.
func TestEachCentOfTakings(t *testing.T) {
	three := 0
	eachDrawn(150, func(r api.Royal, draw drawer) {
		s, takings := drawContract(draw.Rand), draw.IntN(api.MaxCents+1)
		week, e := shares.Week(s, takings)
		if e != api.OK {
			t.Fatalf("Week of %v, %d: %d", s, takings, e)
		}
		all := week.Owner + week.Repaid
		for _, share := range cents(t, royalties.Shares, pools(r, week.Operator-week.Repaid)) {
			all += share
		}
		if all != takings {
			t.Errorf("of %v, %d is split as %v, and shared by %v: together %d", s, takings, week, r, all)
		}
		if week.Operator > week.Repaid && week.Owner > 0 && week.Repaid > 0 {
			three++
		}
	})
	if three < 50 {
		t.Errorf("only %d times all three get something", three)
	}
}

// drawTray draws a tray with presses of many of its sides.
func drawTray(draw *rand.Rand) api.Tray {
	x := api.Tray{Way: 1 - 2*draw.IntN(2), Step: draw.IntN(api.MaxTrayStep + 1)}
	for range 1 + draw.IntN(api.MaxTray) {
		x.Records = append(x.Records, api.TrayRecord{Front: 1 + draw.IntN(200), Back: 1 + draw.IntN(200)})
	}
	x.At = draw.IntN(len(x.Records))
	for range 1 + draw.IntN(api.MaxPresses) {
		x.Presses = append(x.Presses, api.TrayPress{Side: draw.IntN(2 * len(x.Records)), Time: draw.IntN(2000)})
	}
	return x
}

// playsOf returns how often a tray plays each of its records.
func playsOf(t *testing.T, x api.Tray) []int {
	t.Helper()
	all, e := tray.Plays(x)
	if e != api.OK {
		t.Fatalf("Plays of %v: %d", x, e)
	}
	plays := make([]int, len(x.Records))
	for _, p := range all {
		plays[p.Side/2]++
	}
	return plays
}

// P0.15 (the writers of a tray): if each record of a tray belongs to one writer, and was played as often as there, the exact part of a writer is to the Pool as the plays of the writer's records are to all plays; a writer whose records were not played gets nothing, and one to whom all of them belong gets the Pool.
func TestWritersOfTray(t *testing.T) {
	draw := rand.New(rand.NewPCG(10, 15))
	nothing, all := 0, 0
	for range 200 {
		r := royal(draw.IntN(api.MaxPool+1), debts(1+draw.IntN(api.MaxWriters)))
		plays, sum := make([]int, len(r.Owed)), 0
		records := make([]int, len(r.Owed))
		for _, n := range playsOf(t, drawTray(draw)) {
			who := draw.IntN(len(r.Owed))
			r.Sides = append(r.Sides, side(n, part(who, 100)))
			plays[who] += n
			records[who]++
			sum += n
		}
		share := cents(t, royalties.Shares, r)
		for who, n := range plays {
			num, den, e := royalties.Exact(r, who)
			if num*sum != r.Pool*n*den || den < 1 || e != api.OK {
				t.Errorf("Exact of %v, %d = %d, %d, %d; %d of %d plays", r, who, num, den, e, n, sum)
			}
			if n == 0 {
				nothing++
				if share[who] != 0 {
					t.Errorf("the share %d of %v is %d; %d of %d plays", who, r, share[who], n, sum)
				}
			}
			if records[who] == len(r.Sides) {
				all++
				if share[who] != r.Pool {
					t.Errorf("the share %d of %v is %d; all records are of %d", who, r, share[who], who)
				}
			}
		}
	}
	if nothing < 50 || all < 20 {
		t.Errorf("only %d writers have no plays, %d have all records", nothing, all)
	}
}
