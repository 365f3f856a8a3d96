package tests

import (
	"testing"

	"loop.example/g01213/impl"
)

// What is off is told by the oracle, to the last bit.

func TestRoundingOfCurvesThatAreOff(t *testing.T) {
	r := newRandom(401)
	for n := range 300 {
		c, d := randomCurve(r, 0, 1), randomCurve(r, 0, 1)
		if n%3 == 0 { // squares and sums that are subnormal
			c, d = randomCurve(r, -1e-19, 1e-19), randomCurve(r, -1e-22, 1e-22)
		}
		wantNumber(t, "OffOfCurves", impl.OffOfCurves(c, d), oracleOff(c, d))
		wantNumber(t, "OffOfCurves of a curve and itself", impl.OffOfCurves(c, c), 0)
	}
	for i := range 16 {
		wantNumber(t, "OffOfCurves, one number", impl.OffOfCurves(flatBut(1, i, 3), impl.FlatCurve(1)), 4)
		wantNumber(t, "OffOfCurves with NaN", impl.OffOfCurves(flatBut(1, i, nan), impl.FlatCurve(1)), nan)
		wantNumber(t, "OffOfCurves, infinite", impl.OffOfCurves(flatBut(1, i, -infinite), impl.FlatCurve(1)), infinite)
		wantNumber(t, "OffOfCurves, infinite twice", impl.OffOfCurves(flatBut(1, i, infinite), flatBut(1, i, infinite)), nan)
		wantNumber(t, "OffOfCurves, too great", impl.OffOfCurves(flatBut(1, i, 1e20), impl.FlatCurve(1)), infinite)
	}
	wantNumber(t, "OffOfCurves of 0 and -0", impl.OffOfCurves(impl.FlatCurve(minus0), impl.Curve{}), 0)
	wantNumber(t, "OffOfCurves of -0 and 0", impl.OffOfCurves(impl.Curve{}, impl.FlatCurve(minus0)), 0)
}

func TestRoundingOfPartsThatAreOff(t *testing.T) {
	r := newRandom(402)
	for n := range 120 {
		count := 1 + n%impl.MaxPigments
		x, light, target := randomShelf(r, count), randomCurve(r, 0.1, 2), randomCurve(r, 0, 1)
		parts := randomParts(r, count, 1)
		if n%4 == 0 {
			parts = randomParts(r, count, 1e6)
		}
		c := oracleCurveOfParts(x, parts)
		wantCurve(t, "CurveOfParts", curveOfParts(t, x, parts), c)
		wantNumber(t, "OffOfParts", offOfParts(t, x, parts, target), oracleOff(c, target))
		look := oracleLookUnder(light, randomCurve(r, 0, 1))
		off, code := impl.LookOffOfParts(x, parts, light, look)
		wantCode(t, "LookOffOfParts", code, impl.OK)
		wantNumber(t, "LookOffOfParts", off, oracleDifference(oracleLookUnder(light, c), look))
	}
}

func TestRoundingOfDropsThatAreOff(t *testing.T) {
	r := newRandom(403)
	for n := range 120 {
		count := 1 + n%impl.MaxPigments
		x, target, d := randomShelf(r, count), randomCurve(r, 0, 1), randomDrops(r, count, 1000)
		wantNumber(t, "OffOfDrops", offOfDrops(t, x, d, target), oracleOff(oraclePaint(x, d), target))
		wantNumber(t, "OffOfDrops of what they are", offOfDrops(t, x, d, paintOf(t, x, d)), 0)
	}
}

func TestRoundingOfUnlikeCurves(t *testing.T) {
	r := newRandom(404)
	for n := range 40 {
		c, d := randomCurve(r, 0, 1), randomCurve(r, 0, 1)
		var lights []impl.Curve
		for range 1 + n%impl.MaxLights {
			lights = append(lights, randomCurve(r, 0.1, 2))
		}
		list, code := impl.UnlikeUnder(lights, c, d)
		wantCode(t, "UnlikeUnder", code, impl.OK)
		want(t, "UnlikeUnder, length", len(list), len(lights))
		for i := range list {
			wantNumber(t, "UnlikeUnder", list[i], oracleUnlike(lights[i], c, d))
		}
	}
}
