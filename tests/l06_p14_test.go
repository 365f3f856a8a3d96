package tests

import (
	"math"
	"slices"
	"testing"

	"loop.example/g01213/impl"
)

// P14, gauges and their drifts are found by samples.

func meanCounts(t *testing.T, list []impl.Sample) impl.Counts {
	t.Helper()
	mean, code := impl.MeanCounts(list)
	wantCode(t, "MeanCounts", code, impl.OK)
	return mean
}

func middleCounts(t *testing.T, list []impl.Sample) impl.Counts {
	t.Helper()
	middle, code := impl.MiddleCounts(list)
	wantCode(t, "MiddleCounts", code, impl.OK)
	return middle
}

func TestP14MeansOfCounts(t *testing.T) {
	for _, c := range []struct {
		counts []int16
		mean   int16
	}{
		{[]int16{7}, 7}, {[]int16{1, 9, 2}, 4}, {[]int16{1, 2}, 2}, {[]int16{2, 3}, 2}, {[]int16{3, 4}, 4}, {[]int16{-1, -2}, -2}, {[]int16{-2, -3}, -2}, {[]int16{0, 1}, 0}, {[]int16{0, -1}, 0},
		{[]int16{0, 0, 1}, 0}, {[]int16{0, 1, 1}, 1}, {[]int16{-1, -1, 0}, -1}, {[]int16{mostCount, mostCount, mostCount}, mostCount}, {[]int16{leastCount, leastCount}, leastCount}, {[]int16{mostCount, leastCount}, 0}, {[]int16{leastCount}, leastCount},
		{slices.Repeat([]int16{mostCount}, impl.MaxSamples), mostCount}, {slices.Repeat([]int16{leastCount}, impl.MaxSamples), leastCount},
	} {
		want(t, "MeanCounts", meanCounts(t, samplesAt(3, c.counts...)), flatCounts(c.mean))
	}
	for i := range 16 {
		list := []impl.Sample{{Counts: countsBut(0, i, 10)}, {Turn: impl.MaxTurn, Counts: countsBut(0, i, 20)}}
		want(t, "MeanCounts, each wavelength by itself", meanCounts(t, list), countsBut(0, i, 15))
	}
}

func TestP14CountsInTheMiddle(t *testing.T) {
	for _, c := range []struct {
		counts []int16
		middle int16
	}{
		{[]int16{7}, 7}, {[]int16{1, 9, 2}, 2}, {[]int16{9, 1}, 1}, {[]int16{1, 9}, 1}, {[]int16{4, 3, 2, 1}, 2}, {[]int16{5, 1, 5, 5}, 5}, {[]int16{1, 5, 1, 5}, 1}, {[]int16{-1, -9, -2}, -2},
		{[]int16{mostCount, leastCount}, leastCount}, {[]int16{mostCount, leastCount, 0}, 0}, {[]int16{6, 5, 4, 3, 2, 1}, 3}, {[]int16{-5, 3, -5, 3, 0}, 0}, {slices.Repeat([]int16{8}, impl.MaxSamples), 8},
	} {
		want(t, "MiddleCounts", middleCounts(t, samplesAt(3, c.counts...)), flatCounts(c.middle))
	}
	many := make([]impl.Sample, impl.MaxSamples)
	for i := range many {
		many[i].Counts = flatCounts(int16(i * 37 % impl.MaxSamples))
	}
	want(t, "MiddleCounts of MaxSamples", middleCounts(t, many), flatCounts(impl.MaxSamples/2-1))
	for i := range 16 { // the middles come from different samples
		list := []impl.Sample{{Counts: countsBut(1, i, 3)}, {Counts: countsBut(2, i, 1)}, {Counts: countsBut(3, i, 2)}}
		want(t, "MiddleCounts, each wavelength by itself", middleCounts(t, list), flatCounts(2))
	}
}

func TestP14SamplesThatAreFar(t *testing.T) {
	list := samplesAt(4, 10, 11, 9, 10, 13, 7, 10)
	list[0].Turn = 2
	for _, c := range []struct {
		most  int64
		which []int
	}{
		{0, []int{0, 3, 6}}, {1, []int{0, 1, 2, 3, 6}}, {2, []int{0, 1, 2, 3, 6}}, {3, []int{0, 1, 2, 3, 4, 5, 6}}, {math.MaxInt64, []int{0, 1, 2, 3, 4, 5, 6}}, {1 << 32, []int{0, 1, 2, 3, 4, 5, 6}},
	} {
		var wanted []impl.Sample
		for _, i := range c.which {
			wanted = append(wanted, list[i])
		}
		near, code := impl.WithoutFar(list, c.most)
		wantSamples(t, "WithoutFar", near, code, wanted)
	}
	for i := range 16 { // one count that is far is enough
		for _, by := range []int16{6, -6} {
			list := samplesAt(0, 50, 50, 50)
			list[1].Counts[i] += by
			near, code := impl.WithoutFar(list, 5)
			wantSamples(t, "WithoutFar a sample with one count", near, code, samplesAt(0, 50, 50))
			near, code = impl.WithoutFar(list, 6)
			wantSamples(t, "WithoutFar, just near", near, code, list)
		}
	}
	ends := samplesAt(0, leastCount, mostCount)
	near, code := impl.WithoutFar(ends, 65534)
	wantSamples(t, "WithoutFar, nearly as far as can be", near, code, ends[:1])
	near, code = impl.WithoutFar(ends, 65535)
	wantSamples(t, "WithoutFar, as far as can be", near, code, ends)
	mixed := []impl.Sample{{Counts: countsBut(1, 0, 3)}, {Counts: countsBut(2, 0, 1)}, {Counts: countsBut(3, 0, 2)}}
	near, code = impl.WithoutFar(mixed, 0)
	wantSamples(t, "WithoutFar, where no sample is the middle", near, code, nil)
	r := newRandom(1401)
	for n := range 300 {
		list := randomSamples(r, 1+n%impl.MaxSamples)
		if n%2 == 0 {
			for i := range list {
				list[i].Counts, _, _ = impl.ShakeCounts(flatCounts(100), uint32(n+i%7), 20)
			}
		}
		for _, most := range []int64{0, int64(n % 25), 20, 30000, 60000} {
			near, code := impl.WithoutFar(list, most)
			wantSamples(t, "WithoutFar", near, code, oracleNear(list, most))
		}
	}
}

func TestP14GaugesAreFoundBySamples(t *testing.T) {
	r := newRandom(1402)
	for n := range 200 {
		g := randomGauge(r)
		g.Drift = 0
		var black, white []impl.Sample
		for i := range 1 + n%impl.MaxSamples {
			turn := int64(i * i)
			black = append(black, impl.Sample{Turn: turn, Counts: countsOf(t, g, impl.Curve{}, turn)})
			white = append(white, impl.Sample{Turn: turn, Counts: countsOf(t, g, g.Known, turn)})
		}
		found, code := impl.GaugeOf(black, white[:1+n%len(white)], g.Known)
		wantGauge(t, "GaugeOf", found, code, g)
		for _, list := range [][]impl.Sample{black, white} { // with some noise, but no more than the noise
			for i := range list {
				list[i].Counts, _, _ = impl.ShakeCounts(list[i].Counts, r.Uint32(), 5)
			}
		}
		found, code = impl.GaugeOf(black, white, g.Known)
		wantGauge(t, "GaugeOf", found, code, impl.Gauge{Black: oracleMean(black), White: oracleMean(white), Known: g.Known})
		wantTrue(t, "a gauge that is found is valid", impl.ValidGauge(found))
		for w := range g.Black {
			wantTrue(t, "a gauge is found within the noise", near(float64(found.Black[w]), float64(g.Black[w]), 5) && near(float64(found.White[w]), float64(g.White[w]), 5))
		}
	}
	found, code := impl.GaugeOf(samplesAt(9, leastCount), samplesAt(0, mostCount), impl.FlatCurve(tiniest))
	wantGauge(t, "GaugeOf, as far apart as can be", found, code, impl.Gauge{Black: flatCounts(leastCount), White: flatCounts(mostCount), Known: impl.FlatCurve(tiniest)})
}

func TestP14GaugesThatWouldNotBeValid(t *testing.T) {
	none := func(name string, black, white []impl.Sample, known impl.Curve) {
		t.Helper()
		g, code := impl.GaugeOf(black, white, known)
		wantNone(t, "GaugeOf, "+name, g, code, impl.ErrState)
	}
	for i := range 16 {
		for _, a := range append(notShares(), 0, minus0) {
			none("such a known number", samplesAt(0, 1), samplesAt(0, 9), flatBut(0.5, i, a))
		}
		for _, n := range []int16{5, 6, mostCount} {
			none("white is not greater than black", []impl.Sample{{Counts: countsBut(0, i, n)}}, samplesAt(0, 5), impl.FlatCurve(1))
		}
	}
	none("white is black", samplesAt(0, 5), samplesAt(0, 5), impl.FlatCurve(1))
	none("white and black in the other order", samplesAt(0, mostCount), samplesAt(0, leastCount), impl.FlatCurve(1))
	none("the means are the same by their roundings", samplesAt(0, 2, 3), samplesAt(0, 2), impl.FlatCurve(1))
}

func driftOf(t *testing.T, g impl.Gauge, list []impl.Sample) float32 {
	t.Helper()
	drift, code := impl.DriftOf(g, list)
	wantCode(t, "DriftOf", code, impl.OK)
	return drift
}

func TestP14DriftsAreFoundBySamples(t *testing.T) {
	r := newRandom(1403)
	for n := range 200 {
		g := randomGauge(r)
		g.Drift = randomBetween(r, -0.0009, 0.0009)
		var white []impl.Sample
		for i := range 2 + n%(impl.MaxSamples-1) {
			turn := int64(i * 900 / impl.MaxSamples)
			white = append(white, impl.Sample{Turn: turn, Counts: countsOf(t, g, g.Known, turn)})
		}
		if n%2 == 0 { // only one turn
			white = white[len(white)-1:]
		}
		bare, turn := g, float64(white[len(white)-1].Turn)
		bare.Drift = float32(n%3) / 4000 // what has been found before does not matter
		wantTrue(t, "a drift is found, nearly", near(float64(driftOf(t, bare, white)), float64(g.Drift), 0.002/turn+1e-6))
	}
}

func TestP14DriftsOfFewSamples(t *testing.T) {
	g := plainGauge()
	at := func(turn int64, n int16) []impl.Sample { return samplesAt(turn, n) }
	for _, c := range []struct {
		list  []impl.Sample
		drift float32
	}{
		{at(100, 1000), 0}, {at(2, 1001), 0.0005}, {at(2, 999), -0.0005}, {at(100, 1050), 0.0005}, {at(1000, 2000), 0.001}, {at(1000, 0), -0.001}, {at(1024, 500), -0.5 / 1024}, {at(impl.MaxTurn, 0), -1e-5}, {at(impl.MaxTurn, -1000), -2e-5},
		{slices.Concat(at(0, 5000), at(1000, 1500)), 0.0005}, {slices.Concat(at(0, mostCount), at(0, leastCount), at(8, 1000)), 0}, {slices.Concat(at(500, 1000), at(500, 1500)), 0.0005},
	} {
		drift := driftOf(t, g, c.list)
		wantNumber(t, "DriftOf", drift, oracleDrift(g, c.list))
		wantTrue(t, "DriftOf, nearly", near(float64(drift), float64(c.drift), 1e-7))
	}
	wantNumber(t, "DriftOf the greatest drift", driftOf(t, g, at(1000, 2000)), 0.001)
	wantNumber(t, "DriftOf the least drift", driftOf(t, g, at(1000, 0)), -0.001)
	black := plainGauge() // the counts of Black are taken away
	black.Black, black.White = flatCounts(500), flatCounts(1500)
	wantNumber(t, "DriftOf with black counts", driftOf(t, black, at(1000, 1000)), -0.0005)
	wide := wideGauge()
	wantNumber(t, "DriftOf of a wide gauge", driftOf(t, wide, at(1000, leastCount)), -0.001)
	for i := range 16 { // all wavelengths count
		list := []impl.Sample{{Turn: 1, Counts: countsBut(1000, i, 1008)}}
		wantNumber(t, "DriftOf, one wavelength", driftOf(t, g, list), oracleDrift(g, list))
		wantTrue(t, "DriftOf, one wavelength, nearly", near(float64(driftOf(t, g, list)), 0.0005, 1e-6))
	}
}

func TestP14DriftsThatAreNone(t *testing.T) {
	g := plainGauge()
	for _, list := range [][]impl.Sample{
		samplesAt(0, 1000), samplesAt(0, 1000, 1000, 999), samplesAt(0, 5, -5, 0), samplesAt(0, leastCount), make([]impl.Sample, impl.MaxSamples), // all turns are 0
		samplesAt(1, 1001), // 1.001 less 1 is 0.0010000467, as narrow numbers
		samplesAt(1, 1002), samplesAt(1, 998), samplesAt(1, 1001, 1002), samplesAt(500, 1501), samplesAt(500, 499), samplesAt(1000, 2001), samplesAt(1000, -1), samplesAt(1, mostCount), samplesAt(1, leastCount), samplesAt(30, mostCount),
	} {
		drift, code := impl.DriftOf(g, list)
		wantNone(t, "DriftOf", drift, code, impl.ErrState)
	}
	narrow := impl.Gauge{White: flatCounts(1), Known: impl.FlatCurve(1)}
	for _, list := range [][]impl.Sample{samplesAt(impl.MaxTurn, 102), samplesAt(impl.MaxTurn, -100), samplesAt(impl.MaxTurn, mostCount)} {
		drift, code := impl.DriftOf(narrow, list)
		wantNone(t, "DriftOf, at MaxTurn", drift, code, impl.ErrState)
	}
	for _, n := range []int16{101, 50, 1, 0, -99} {
		list := samplesAt(impl.MaxTurn, n)
		wantNumber(t, "DriftOf, at MaxTurn", driftOf(t, narrow, list), oracleDrift(narrow, list))
	}
}

func TestP14MeansAndSpreads(t *testing.T) {
	g := plainGauge()
	for _, c := range []struct {
		counts       []int16
		mean, spread float32
	}{
		{[]int16{500}, 0.25, 0}, {[]int16{500, 500}, 0.25, 0}, {[]int16{250, 750}, 0.25, 0.25}, {[]int16{750, 250}, 0.25, 0.25}, {[]int16{0, 1000, 500, 500}, 0.25, 0.5}, {[]int16{-500, 500}, 0, 0.5}, {[]int16{0}, 0, 0}, {[]int16{-250, -750, -500}, -0.25, 0.25},
	} {
		mean, spread, code := impl.CurvesOf(g, samplesAt(7, c.counts...))
		wantCode(t, "CurvesOf", code, impl.OK)
		wantCurve(t, "the mean", mean, impl.FlatCurve(c.mean))
		wantCurve(t, "the spread", spread, impl.FlatCurve(c.spread))
	}
	for i := range 16 {
		list := []impl.Sample{{Counts: countsBut(500, i, 250)}, {Turn: 1, Counts: countsBut(500, i, 750)}}
		mean, spread, code := impl.CurvesOf(g, list)
		wantCode(t, "CurvesOf", code, impl.OK)
		wantCurve(t, "the mean, each wavelength by itself", mean, impl.FlatCurve(0.25))
		wantCurve(t, "the spread, each wavelength by itself", spread, flatBut(0, i, 0.25))
	}
	// Samples of one curve at different turns have hardly a spread, if the drift is known.
	r := newRandom(1404)
	for range 100 {
		g, c := randomGauge(r), randomCurve(r, 0, 1)
		var list []impl.Sample
		for turn := int64(0); turn < 500; turn += 50 {
			list = append(list, impl.Sample{Turn: turn, Counts: countsOf(t, g, c, turn)})
		}
		mean, spread, code := impl.CurvesOf(g, list)
		wantCode(t, "CurvesOf", code, impl.OK)
		wantNearCurve(t, "the mean of a curve", mean, c, 0.002)
		wantNearCurve(t, "the spread of a curve", spread, impl.Curve{}, 0.005)
	}
}

func TestP14LampsBecomeWeaker(t *testing.T) {
	for _, c := range []struct {
		drift, share float32
		turn, code   int64
	}{
		{-0.001, 0.5, 500, impl.OK}, {-0.001, 1, 0, impl.OK}, {-0.001, math.Nextafter32(1, 0), 1, impl.OK}, {-0.001, 0.999, 1, impl.OK}, {-0.001, 0.9989, 2, impl.OK}, {-0.001, 0, 1000, impl.OK}, {-0.001, minus0, 1000, impl.OK}, {-0.001, tiniest, 1000, impl.OK},
		{-0.0001, 0, 10000, impl.OK}, {-1e-5, 0, impl.MaxTurn, impl.OK}, {-9.9e-6, 0, 0, impl.ErrNotFound}, {-9.9e-6, 0.01, 100000, impl.OK}, {-9.9e-6, 0.0099, 0, impl.ErrNotFound}, {-9.9e-6, 0.5, 50506, impl.OK},
		{0, 1, 0, impl.OK}, {0, 0.999, 0, impl.ErrNotFound}, {0, 0, 0, impl.ErrNotFound}, {minus0, 1, 0, impl.OK}, {0.001, 1, 0, impl.OK}, {0.001, 0.999, 0, impl.ErrNotFound}, {0.001, 0, 0, impl.ErrNotFound},
		{-tiniest, 1, 0, impl.OK}, {-tiniest, math.Nextafter32(1, 0), 0, impl.ErrNotFound}, {-1e-12, math.Nextafter32(1, 0), 29803, impl.OK},
	} {
		for _, g := range []impl.Gauge{plainGauge(), wideGauge()} {
			g.Drift = c.drift
			left, code := impl.LampLeft(g, c.share)
			if left != c.turn || code != c.code {
				t.Errorf("LampLeft of %v and %v: got %d and the code %d, want %d and %d", c.drift, c.share, left, code, c.turn, c.code)
			}
		}
	}
}
