package tests

import (
	"testing"

	"loop.example/g01213/impl"
)

// P1, 'Numbers and roundings': what chapter 5 calculates is told by the oracle, to the last bit.

func TestP1RoundingOfOverprints(t *testing.T) {
	r := newRandom(501)
	for n := range 60 {
		p := randomPress(r)
		if n%2 == 0 {
			p = edgePress(r)
		}
		for k := range 16 {
			wantCurve(t, "OverprintOf", overprintOf(t, p, keyOf(t, int64(k))), oracleOverprint(p, k))
		}
	}
}

func TestP1RoundingOfGains(t *testing.T) {
	r := newRandom(502)
	list := edgeShares()
	for range 30 {
		list = append(list, randomBetween(r, 0, 1))
	}
	for _, gain := range list {
		for _, a := range list {
			wantNumber(t, "GainAt", gainAt(t, gain, a), oracleGrown(gain, a))
			before, code := impl.CoverBefore(gain, a)
			wantCode(t, "CoverBefore", code, impl.OK)
			wantNumber(t, "CoverBefore", before, oracleBefore(gain, a))
		}
	}
	for n, c := range someCovers(r, 60) {
		p := flatPress(1, list[n%len(list)])
		grown, code := impl.CoverWithGain(p, c)
		wantCover(t, "CoverWithGain", grown, code, oracleGrownCover(p.Gain, c))
	}
}

func TestP1RoundingOfPrints(t *testing.T) {
	r := newRandom(503)
	for n, c := range someCovers(r, 20) {
		areas, code := impl.AreasOf(c)
		wantCode(t, "AreasOf", code, impl.OK)
		for k, area := range oracleAreas(c) {
			wantNumber(t, "AreasOf", areas[k], area)
		}
		p := randomPress(r)
		if n%3 == 0 {
			p = edgePress(r)
		}
		wantCurve(t, "PrintedCurve", printedCurve(t, p, c), oraclePrinted(p, c))
	}
	for range 20 {
		p, c, light := randomPress(r), randomCover(r), randomCurve(r, 0.1, 2)
		wantThree(t, "PrintedLook", printedLook(t, p, c, light), oracleLookUnder(light, oraclePrinted(p, c)))
	}
}

func TestP1RoundingOfInk(t *testing.T) {
	r := newRandom(504)
	for _, c := range someCovers(r, 120) {
		wantNumber(t, "InkIn", inkIn(t, c), oracleInk(c))
		for _, limit := range []float32{0, minus0, tiniest, c[3], oracleInk(c), randomBetween(r, 0, 1), randomBetween(r, 0, 4), 4} {
			less, code := impl.LimitInk(c, limit)
			wantCover(t, "LimitInk", less, code, oracleLimited(c, limit))
		}
		for _, share := range append(edgeShares(), randomBetween(r, 0, 1)) {
			under, code := impl.PutBlackUnder(c, share)
			wantCover(t, "PutBlackUnder", under, code, oracleUnder(c, share))
		}
	}
}

func TestP1RoundingOfCoversSeen(t *testing.T) {
	r := newRandom(505)
	for n := range 300 {
		p, ink := randomPress(r), n%4
		measured := randomCurve(r, 0, 1)
		for w := range measured { // mostly between the paper and the ink
			measured[w] *= p.Paper[w]
		}
		if n%7 == 0 {
			measured = randomCurve(r, -3, 3)
		}
		seen, code := impl.CoverSeen(p, int64(ink), measured)
		wantCode(t, "CoverSeen", code, impl.OK)
		wantNumber(t, "CoverSeen", seen, oracleCoverSeen(p, ink, measured))
	}
}

func TestP1RoundingOfTileCurves(t *testing.T) {
	r := newRandom(506)
	for n := range 80 {
		p := randomPress(r)
		if n%3 == 0 {
			p = edgePress(r)
		}
		tiles := [4]impl.Tile{anyTile(r), anyTile(r), anyTile(r), anyTile(r)}
		wantCurve(t, "TileCurve", tileCurve(t, p, tiles), oracleTileCurve(p, tiles))
	}
	for _, a := range edgeShares() {
		p := flatPress(a, 0, a, a, a, a)
		wantCurve(t, "TileCurve without places", tileCurve(t, p, [4]impl.Tile{}), oracleTileCurve(p, [4]impl.Tile{}))
	}
}
