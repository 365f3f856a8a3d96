package tests

import (
	"math"
	"testing"

	"loop.example/g01213/impl"
)

// Counts, curves and drifts are told by the oracle, to the last bit.

func TestP13RoundingOfCounts(t *testing.T) {
	for _, c := range []struct {
		a float32
		n int16
	}{
		{0, 0}, {minus0, 0}, {tiniest, 0}, {-tiniest, 0}, {0.5, 0}, {-0.5, 0}, {math.Nextafter32(0.5, 1), 1}, {math.Nextafter32(-0.5, -1), -1},
		{1.5, 2}, {-1.5, -2}, {2.5, 2}, {-2.5, -2}, {3.5, 4}, {-3.5, -4}, {2.4999998, 2}, {2.5000002, 3}, {-2.4999998, -2}, {-2.5000002, -3},
		{32766, 32766}, {32766.498, 32766}, {32766.5, 32766}, {32766.502, 32767}, {32767, 32767}, {32767.498, 32767}, {32767.5, 32767}, {32768, 32767}, {32769, 32767},
		{-32767, -32767}, {-32767.5, -32768}, {-32767.498, -32767}, {-32768, -32768}, {-32768.496, -32768}, {-32768.5, -32768}, {-32769, -32768}, {-32770, -32768},
		{40000, 32767}, {-40000, -32768}, {65535, 32767}, {65536, 32767}, {-65536, -32768}, {1 << 31, 32767}, {-(1 << 31), -32768}, {1 << 32, 32767}, {1 << 62, 32767}, {1 << 63, 32767}, {1 << 64, 32767}, {-(1 << 63), -32768},
		{largest, 32767}, {-largest, -32768}, {infinite, 32767}, {-infinite, -32768}, {nan, 0}, {math.Float32frombits(0xffc00001), 0}, {math.Float32frombits(0x7f800001), 0},
	} {
		if n := impl.ToCount(c.a); n != c.n {
			t.Errorf("ToCount(%v): got %d, want %d", c.a, n, c.n)
		}
	}
	for n := math.MinInt16; n < math.MaxInt16; n++ {
		even, half := n, float32(n)+0.5
		if n%2 != 0 {
			even = n + 1
		}
		wantTrue(t, "ToCount of an integer", impl.ToCount(float32(n)) == int16(n))
		wantTrue(t, "ToCount between two integers", impl.ToCount(half) == int16(even))
		wantTrue(t, "ToCount a little below", impl.ToCount(math.Nextafter32(half, -infinite)) == int16(n))
		wantTrue(t, "ToCount a little above", impl.ToCount(math.Nextafter32(half, infinite)) == int16(n+1))
	}
	r := newRandom(601)
	for range 3000 {
		a := math.Float32frombits(r.Uint32())
		if finite(a) {
			want(t, "ToCount", impl.ToCount(a), oracleCount(a))
		}
		a = randomBetween(r, -33000, 33000)
		want(t, "ToCount", impl.ToCount(a), oracleCount(a))
	}
}

// someTurns are turns at which the lamps of all valid gauges are lit, and the ends of these.
func someTurns() []int64 { return []int64{0, 1, 2, 17, 999} }

func TestP13RoundingOfCurvesAndCounts(t *testing.T) {
	r := newRandom(602)
	for n := range 400 {
		g, c, counts := randomGauge(r), randomCurve(r, -0.2, 1.3), anyCounts(r)
		turn := someTurns()[n%len(someTurns())]
		if n%3 == 0 {
			g, c, counts = edgeGauge(r), wholeCurve(r, 3), edgeCounts(r)
		}
		if n%7 == 0 {
			c = randomCurve(r, -1e-5, 1e-5)
		}
		if g.Drift >= 0 && n%2 == 0 {
			turn = impl.MaxTurn - int64(n)
		}
		want(t, "CountsOf", countsOf(t, g, c, turn), oracleCounts(g, c, turn))
		wantCurve(t, "CurveOf", curveOfCounts(t, g, counts, turn), oracleCurveOfCounts(g, counts, turn))
	}
}

// Great counts are rounded to a half by one order of the steps, and not by another one.
func TestP13RoundingOfGreatCounts(t *testing.T) {
	r := newRandom(608)
	for n := range 1500 {
		g, c := wideGauge(), randomCurve(r, 0, 1)
		g.Known = randomCurve(r, 0.5, 1)
		turn := int64(n)
		g.Drift = randomBetween(r, -1e-5, 1e-5)
		for w := range c {
			c[w] *= g.Known[w]
		}
		want(t, "CountsOf", countsOf(t, g, c, turn), oracleCounts(g, c, turn))
	}
}

// The order of products: (w * f) * c / Known, and ((n - Black) * Known) / (w * f).
func TestP13NumbersThatAreNearlyTooGreat(t *testing.T) {
	g := wideGauge()
	// A product that is infinite stays so, even if the quotient would bring it back.
	want(t, "the greatest curve", countsOf(t, g, impl.FlatCurve(largest), 0), flatCounts(mostCount))
	want(t, "the least curve", countsOf(t, g, impl.FlatCurve(-largest), 0), flatCounts(leastCount))
	g.Known = impl.FlatCurve(tiniest)
	want(t, "a quotient that is infinite", countsOf(t, g, impl.FlatCurve(1), 0), flatCounts(mostCount))
	want(t, "a quotient that is infinite, and negative", countsOf(t, g, impl.FlatCurve(-1), 0), flatCounts(leastCount))
	want(t, "nothing by nearly nothing", countsOf(t, g, impl.FlatCurve(minus0), 0), flatCounts(leastCount))
	want(t, "what is known", countsOf(t, g, impl.FlatCurve(tiniest), 0), flatCounts(mostCount))
	// -1 times the least number is lost in the quotient, but not its sign.
	g = impl.Gauge{White: flatCounts(1000), Known: impl.FlatCurve(tiniest)}
	wantCurve(t, "nearly nothing", curveOfCounts(t, g, flatCounts(1), 0), impl.FlatCurve(0))
	wantCurve(t, "nearly nothing, and negative", curveOfCounts(t, g, flatCounts(-1), 0), impl.FlatCurve(minus0))
	mean, spread, code := impl.CurvesOf(g, samplesAt(0, -1, -1, -1))
	wantCode(t, "CurvesOf", code, impl.OK)
	wantCurve(t, "the mean of -0", mean, impl.FlatCurve(minus0))
	wantCurve(t, "the spread of -0", spread, impl.FlatCurve(0))
	for _, list := range [][]impl.Sample{samplesAt(0, -1, 1), samplesAt(0, 1, -1), samplesAt(0, 0, -1, 1)} {
		mean, spread, code = impl.CurvesOf(g, list)
		wantCode(t, "CurvesOf", code, impl.OK)
		wantCurve(t, "the mean of 0 and -0", mean, impl.FlatCurve(0))
		wantCurve(t, "the spread of 0 and -0", spread, impl.FlatCurve(0))
	}
}

func TestP13RoundingOfNoise(t *testing.T) {
	r := newRandom(603)
	for n := range 500 {
		c, seed, most := anyCounts(r), r.Uint32(), int16(r.IntN(1<<15))
		if n%3 == 0 {
			c, most = edgeCounts(r), int16(n%5)
		}
		wanted, last := oracleShaken(c, seed, most)
		shaken, next, code := impl.ShakeCounts(c, seed, most)
		wantFound(t, "ShakeCounts", shaken, code, wanted)
		want(t, "the last seed", next, last)
	}
}

func TestP14RoundingOfMeansAndMiddles(t *testing.T) {
	r := newRandom(604)
	for n := range 300 {
		list := randomSamples(r, 1+n%impl.MaxSamples)
		mean, code := impl.MeanCounts(list)
		wantFound(t, "MeanCounts", mean, code, oracleMean(list))
		middle, code := impl.MiddleCounts(list)
		wantFound(t, "MiddleCounts", middle, code, oracleMiddle(list))
	}
}

func TestP14RoundingOfDrifts(t *testing.T) {
	r := newRandom(605)
	found := 0
	for n := range 400 {
		g, drift := randomGauge(r), randomBetween(r, -0.001, 0.001)
		var list []impl.Sample
		for turn := int64(n % 3); len(list) < 1+n%impl.MaxSamples; turn += r.Int64N(15) {
			lit := g
			lit.Drift = drift
			counts, _ := impl.CountsOf(lit, g.Known, turn)
			shaken, _, _ := impl.ShakeCounts(counts, r.Uint32(), int16(n%20))
			list = append(list, impl.Sample{Turn: turn, Counts: shaken})
		}
		if list[len(list)-1].Turn == 0 {
			continue
		}
		wanted := oracleDrift(g, list)
		got, code := impl.DriftOf(g, list)
		if !(wanted >= -0.001 && wanted <= 0.001) {
			wantNone(t, "DriftOf", got, code, impl.ErrState)
			continue
		}
		found++
		wantCode(t, "DriftOf", code, impl.OK)
		wantNumber(t, "DriftOf", got, wanted)
	}
	wantTrue(t, "most of the drifts are drifts", found > 250)
}

func TestP14RoundingOfMeanCurves(t *testing.T) {
	r := newRandom(606)
	for n := range 200 {
		g, list := randomGauge(r), randomSamples(r, 1+n%impl.MaxSamples)
		if n%3 == 0 {
			g = edgeGauge(r)
		}
		for i := range list {
			list[i].Turn %= 999
		}
		sortByTurn(list)
		mean, spread, code := impl.CurvesOf(g, list)
		wantCode(t, "CurvesOf", code, impl.OK)
		wantedMean, wantedSpread := oracleCurves(g, list)
		wantCurve(t, "the mean", mean, wantedMean)
		wantCurve(t, "the spread", spread, wantedSpread)
	}
}

func TestP14RoundingOfLamps(t *testing.T) {
	r := newRandom(607)
	for n := range 60 {
		g, share := plainGauge(), randomBetween(r, 0, 1)
		g.Drift = randomBetween(r, -0.001, -0.00001)
		if n%4 == 0 {
			g.Drift = randomBetween(r, -1e-6, 1e-6)
		}
		wanted := int64(0)
		for wanted <= impl.MaxTurn && !(1+float32(g.Drift*float32(wanted)) <= share) {
			wanted++
		}
		left, code := impl.LampLeft(g, share)
		if wanted > impl.MaxTurn {
			wantNone(t, "LampLeft", left, code, impl.ErrNotFound)
			continue
		}
		wantFound(t, "LampLeft", left, code, wanted)
		wantTrue(t, "the lamp is so weak then", oracleLamp(g.Drift, left) <= share)
		wantTrue(t, "the lamp is not so weak before", left == 0 || oracleLamp(g.Drift, left-1) > share)
	}
}
