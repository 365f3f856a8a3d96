package tests

import (
	"math"
	"testing"

	"loop.example/g01213/impl"
)

func TestP12InkIsLimited(t *testing.T) {
	r := newRandom(1201)
	for _, c := range someCovers(r, 300) {
		ink := oracleInk(c)
		for _, limit := range []float32{0, tiniest, ink, math.Nextafter32(ink, 5), randomBetween(r, 0, 4), 0.1, 1, 2, 3, 4} {
			if limit > 4 {
				continue
			}
			less := limitInk(t, c, limit)
			wantTrue(t, "what is limited is a cover", impl.ValidCover(less))
			wantTrue(t, "what is limited has no more ink than the limit, nearly", float64(oracleInk(less)) <= float64(limit)+1e-6)
			for i := range less {
				wantTrue(t, "what is limited has no more of any ink", less[i] <= c[i])
			}
			if ink <= limit {
				wantCover(t, "what has not too much ink stays", less, impl.OK, c)
			} else {
				wantTrue(t, "what is limited has as much ink as the limit, nearly", near(float64(oracleInk(less)), float64(limit), 1e-6))
				black := c[3]
				if black >= limit {
					black = limit
				}
				wantNumber(t, "black stays, or is the limit", less[3], black)
			}
		}
	}
}

func TestP12LimitsAtTheEdges(t *testing.T) {
	cases := []struct {
		name    string
		cover   impl.Cover
		limit   float32
		limited impl.Cover
	}{
		{"just InkIn", impl.Cover{0.25, 0.5, 0.75, 1}, 2.5, impl.Cover{0.25, 0.5, 0.75, 1}},
		{"a little more than InkIn", impl.Cover{0.25, 0.5, 0.75, 1}, 2.5000002, impl.Cover{0.25, 0.5, 0.75, 1}},
		{"half of the first three", impl.Cover{0.25, 0.5, 0.75, 1}, 1.75, impl.Cover{0.125, 0.25, 0.375, 1}},
		{"just black", impl.Cover{0.25, 0.5, 0.75, 1}, 1, impl.Cover{0, 0, 0, 1}},
		{"a little more than black", impl.Cover{1, 0.5, 0.5, 0.5}, 0.5 + 0x1p-24, impl.Cover{0x1p-25, 0x1p-26, 0x1p-26, 0.5}},
		{"less than black", impl.Cover{0.25, 0.5, 0.75, 1}, 0.75, impl.Cover{0, 0, 0, 0.75}},
		{"0", impl.Cover{1, 1, 1, 1}, 0, impl.Cover{}},
		{"0 without black", impl.Cover{1, 0.5, 0.25, 0}, 0, impl.Cover{}},
		{"0 of nothing", impl.Cover{}, 0, impl.Cover{}},
		{"-0 of nothing", impl.Cover{0, minus0, 0, minus0}, minus0, impl.Cover{0, minus0, 0, minus0}},
		{"4 of all", impl.Cover{1, 1, 1, 1}, 4, impl.Cover{1, 1, 1, 1}},
		{"4 of nothing", impl.Cover{}, 4, impl.Cover{}},
		{"a little less than 4", impl.Cover{1, 1, 1, 1}, 3.25, impl.Cover{0.75, 0.75, 0.75, 1}},
		{"a first three of nothing", impl.Cover{0, 0, 0, 0.5}, 0.25, impl.Cover{0, 0, 0, 0.25}},
		{"a first three of nothing, and just black", impl.Cover{0, 0, 0, 0.5}, 0.5, impl.Cover{0, 0, 0, 0.5}},
		{"a first three of -0", impl.Cover{minus0, minus0, minus0, 0.5}, 0.25, impl.Cover{0, 0, 0, 0.25}},
		{"one of the first three", impl.Cover{0, 1, 0, 0.25}, 0.5, impl.Cover{0, 0.25, 0, 0.25}},
		{"no black", impl.Cover{1, 1, 1, 0}, 1.5, impl.Cover{0.5, 0.5, 0.5, 0}},
	}
	for _, c := range cases {
		less, code := impl.LimitInk(c.cover, c.limit)
		wantCover(t, "LimitInk, "+c.name, less, code, c.limited)
	}
}

func TestP12InkInCovers(t *testing.T) {
	for _, c := range []struct {
		cover impl.Cover
		ink   float32
	}{
		{impl.Cover{}, 0}, {impl.Cover{1, 1, 1, 1}, 4}, {impl.Cover{0.5, 0.25, 0.125, 1}, 1.875}, {impl.Cover{3: 0.5}, 0.5},
		{impl.Cover{1, 0x1p-24, 0x1p-24, 0x1p-24}, 1}, {impl.Cover{0x1p-24, 0x1p-24, 0x1p-24, 1}, 1.0000002},
		{impl.Cover{minus0, minus0, minus0, minus0}, minus0}, {impl.Cover{tiniest, tiniest, 0, tiniest}, 3 * tiniest},
	} {
		wantNumber(t, "InkIn", inkIn(t, c.cover), c.ink)
	}
}

func TestP12BlackIsPutUnder(t *testing.T) {
	r := newRandom(1202)
	for _, c := range someCovers(r, 300) {
		for _, share := range []float32{0, 1, randomBetween(r, 0, 1)} {
			under, code := impl.PutBlackUnder(c, share)
			wantCode(t, "PutBlackUnder", code, impl.OK)
			wantTrue(t, "PutBlackUnder returns a cover", impl.ValidCover(under))
			for i := range 3 {
				wantTrue(t, "black takes the place of others", under[i] <= c[i] && under[3] >= c[3])
			}
		}
	}
	for _, c := range []struct {
		name  string
		cover impl.Cover
		share float32
		under impl.Cover
	}{
		{"all grey", impl.Cover{0.5, 0.75, 1, 0.25}, 1, impl.Cover{0, 0.25, 0.5, 0.75}},
		{"no grey", impl.Cover{0.5, 0.75, 1, 0.25}, 0, impl.Cover{0.5, 0.75, 1, 0.25}},
		{"the least is the second one", impl.Cover{0.75, 0.5, 1, 0}, 0.5, impl.Cover{0.5, 0.25, 0.75, 0.25}},
		{"the least is the third one", impl.Cover{1, 0.75, 0.5, 0}, 0.5, impl.Cover{0.75, 0.5, 0.25, 0.25}},
		{"black is not one of the first three", impl.Cover{0.5, 0.5, 0.5, 0.25}, 0.5, impl.Cover{0.25, 0.25, 0.25, 0.5}},
		{"one of them is nothing", impl.Cover{1, 0, 1, 0.25}, 1, impl.Cover{1, 0, 1, 0.25}},
		{"black would be more than 1", impl.Cover{0.5, 0.75, 1, 0.75}, 1, impl.Cover{0, 0.25, 0.5, 1}},
		{"black would be just 1", impl.Cover{0.5, 0.75, 1, 0.75}, 0.5, impl.Cover{0.25, 0.5, 0.75, 1}},
		{"black is 1", impl.Cover{0.5, 0.5, 0.5, 1}, 1, impl.Cover{0, 0, 0, 1}},
		{"all inks", impl.Cover{1, 1, 1, 1}, 1, impl.Cover{0, 0, 0, 1}},
		{"nothing", impl.Cover{}, 1, impl.Cover{}},
		{"the least grey", impl.Cover{tiniest, 1, 1, 0}, 1, impl.Cover{0, 1, 1, tiniest}},
	} {
		under, code := impl.PutBlackUnder(c.cover, c.share)
		wantCover(t, "PutBlackUnder, "+c.name, under, code, c.under)
	}
}

// wantBest compares the best cover with the one that is found by looking at all covers.
func wantBest(t *testing.T, name string, p impl.Press, light impl.Curve, look impl.Three, grid int, limit float32) impl.Cover {
	t.Helper()
	wanted, off, found := oracleBest(look, grid, limit, func(c impl.Cover) (impl.Three, int64) { return impl.PrintedLook(p, c, light) })
	best, got, code := impl.BestCover(p, light, look, int64(grid), limit)
	wantCode(t, name, code, found)
	wantNumber(t, name+", off", got, off)
	if !sameCover(best, wanted) {
		t.Errorf("%s: got %v, want %v", name, best, wanted)
	}
	return best
}

func TestP12BestCoverOfTheOracle(t *testing.T) {
	r := newRandom(1203)
	for _, grid := range []int{1, 1, 2} {
		p, light, look := randomPress(r), randomCurve(r, 0.1, 2), lookUnder(t, impl.FlatCurve(1), randomCurve(r, 0, 1))
		wanted, off := impl.Cover{}, infinite
		for _, c := range oracleGrid(grid) {
			if away := oracleDifference(oracleLookUnder(light, oraclePrinted(p, c)), look); away < off {
				wanted, off = c, away
			}
		}
		best, got, code := impl.BestCover(p, light, look, int64(grid), 4)
		wantCover(t, "BestCover", best, code, wanted)
		wantNumber(t, "BestCover, off", got, off)
	}
}

func TestP12BestCoverIsBest(t *testing.T) {
	r := newRandom(1204)
	for n := range 36 {
		grid := 1 + n%impl.MaxGrid
		p, light := randomPress(r), randomCurve(r, 0.1, 2)
		if n%3 == 0 {
			p, light = colourPress(), impl.FlatCurve(1)
		}
		look := lookUnder(t, light, randomCurve(r, 0, 1))
		limits := []float32{infinite, 4, randomBetween(r, 0, 3)}
		best := wantBest(t, "BestCover", p, light, look, grid, limits[n/6%3])
		ink := inkIn(t, best)
		again := wantBest(t, "BestCover within its own ink", p, light, look, grid, ink)
		wantCover(t, "a limit may be reached", again, impl.OK, best)
		less := wantBest(t, "BestCover within less ink", p, light, look, grid, math.Nextafter32(ink, -1))
		wantTrue(t, "BestCover keeps its limit", ink == 0 || inkIn(t, less) < ink)
	}
}

// A print of a grid has no difference from its own look; another one that looks the same may come before it.
func TestP12BestCoverFindsPrints(t *testing.T) {
	r := newRandom(1205)
	p, light := colourPress(), impl.FlatCurve(1)
	for grid := 1; grid <= impl.MaxGrid; grid++ {
		all := oracleGrid(grid)
		for range 3 {
			c := all[r.IntN(len(all))]
			look := printedLook(t, p, c, light)
			best, off, code := impl.BestCover(p, light, look, int64(grid), inkIn(t, c))
			wantCode(t, "BestCover of a print", code, impl.OK)
			wantNumber(t, "BestCover of a print, off", off, 0)
			wantThree(t, "BestCover of a print looks the same", printedLook(t, p, best, light), look)
		}
	}
}

func TestP12BestCoverOfSeveral(t *testing.T) {
	light := impl.FlatCurve(1)
	white, black := lookUnder(t, light, light), lookUnder(t, light, impl.Curve{})
	blacks, clears := flatPress(1, 0, 0, 0, 0, 0), flatPress(1, 0.5, 1, 1, 1, 1)
	grey := lookUnder(t, light, impl.FlatCurve(0.25))
	for _, c := range []struct {
		name  string
		press impl.Press
		look  impl.Three
		grid  int64
		limit float32
		best  impl.Cover
	}{
		{"all inks are black", blacks, black, 1, 4, impl.Cover{0, 0, 0, 1}},
		{"all inks are black, and white is wanted", blacks, white, 1, 4, impl.Cover{}},
		{"all inks are black, and half of the paper is left", blacks, grey, 2, 4, impl.Cover{0, 0, 0, 0.5}},
		{"all inks are black, and too little is enough", blacks, black, 2, 0.5, impl.Cover{0, 0, 0, 0.5}},
		{"all inks are clear", clears, black, 2, 4, impl.Cover{}},
		{"all inks are clear, without a limit", clears, black, 4, infinite, impl.Cover{}},
		{"one ink is black", flatPress(1, 0, 1, 0, 1, 1), black, 2, 4, impl.Cover{0, 1}},
		{"the first two inks are black", flatPress(1, 0, 0, 0, 1, 1), black, 2, 4, impl.Cover{0, 1}},
		{"the first ink and the third are black", flatPress(1, 0, 0, 1, 0, 1), black, 2, 1, impl.Cover{0, 0, 1}},
		{"the limit is 0", blacks, black, 6, 0, impl.Cover{}},
		{"the limit is -0", blacks, black, 6, minus0, impl.Cover{}},
		{"the limit is less than a step", blacks, black, 6, 0.16, impl.Cover{}},
		{"the limit is a step", blacks, black, 4, 0.25, impl.Cover{0, 0, 0, 0.25}},
		{"the paper is black", flatPress(0, 0, 1, 1, 0.5, 0), white, 3, 4, impl.Cover{}},
	} {
		best, _, code := impl.BestCover(c.press, light, c.look, c.grid, c.limit)
		wantCover(t, "BestCover, "+c.name, best, code, c.best)
		wantBest(t, "BestCover, "+c.name, c.press, light, c.look, int(c.grid), c.limit)
	}
}

// Each ink alone is found on each step of each grid; 5/6 is not 5 times 1/6, as it is rounded.
func TestP12BestCoverOfOneInk(t *testing.T) {
	light := impl.FlatCurve(1)
	for grid := 1; grid <= impl.MaxGrid; grid++ {
		for step := range grid + 1 {
			for ink := range 4 {
				p, wanted := flatPress(0.875, 0.125, 1, 1, 1, 1), impl.Cover{}
				p.Inks[ink], wanted[ink] = impl.FlatCurve(0.25), over(float32(step), float32(grid))
				best, off, code := impl.BestCover(p, light, printedLook(t, p, wanted, light), int64(grid), inkIn(t, wanted))
				wantCover(t, "BestCover of one ink", best, code, wanted)
				wantNumber(t, "BestCover of one ink, off", off, 0)
			}
		}
	}
}

// The light is so strong that what the red observer feels of the paper is infinite, but not what he feels of prints.
func TestP12BestCoverBesideErrors(t *testing.T) {
	light, p := impl.FlatCurve(largest/5.05), flatPress(1, 0, 0.75, 0.5, 0.25, 0.125)
	_, code := impl.PrintedLook(p, impl.Cover{}, light)
	wantCode(t, "PrintedLook of the paper", code, impl.ErrState)
	_, code = impl.PrintedLook(p, impl.Cover{1}, light)
	wantCode(t, "PrintedLook of an ink", code, impl.OK)
	white := impl.Three{100, 0, 0}
	for grid := 1; grid <= 3; grid++ {
		best := wantBest(t, "BestCover beside errors", p, light, white, grid, 4)
		wantTrue(t, "covers with errors do not count", best != impl.Cover{})
	}
	_, _, code = impl.BestCover(p, light, white, 2, 0)
	wantCode(t, "BestCover of one cover with an error", code, impl.ErrNotFound)
}

func TestP12BestCoverOfTheFinestGrid(t *testing.T) {
	p, light := colourPress(), impl.FlatCurve(1)
	wantBest(t, "BestCover of MaxGrid", p, light, impl.Three{50, 20, -20}, impl.MaxGrid, infinite)
}
