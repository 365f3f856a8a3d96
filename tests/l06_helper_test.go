package tests

import (
	"math"
	"math/rand/v2"
	"slices"
	"testing"

	"loop.example/g01213/impl"
)

const (
	mostCount  = int16(math.MaxInt16)
	leastCount = int16(math.MinInt16)
)

func flatCounts(n int16) impl.Counts {
	var c impl.Counts
	for i := range c {
		c[i] = n
	}
	return c
}

// countsBut has the count b everywhere, but n at the index i.
func countsBut(b int16, i int, n int16) impl.Counts {
	c := flatCounts(b)
	c[i] = n
	return c
}

// plainGauge is the gauge of the example of chapter 6.
func plainGauge() impl.Gauge {
	return impl.Gauge{White: flatCounts(1000), Known: impl.FlatCurve(0.5)}
}

// wideGauge has counts of Black and White that are as far apart as they can be.
func wideGauge() impl.Gauge {
	return impl.Gauge{Black: flatCounts(leastCount), White: flatCounts(mostCount), Known: impl.FlatCurve(1)}
}

// randomGauge is an ordinary gauge, of which no counts are saturated by curves of at most 1.2 while the lamp is at most 2.
func randomGauge(r *rand.Rand) impl.Gauge {
	g := impl.Gauge{Known: randomCurve(r, 0.5, 1), Drift: randomBetween(r, -0.001, 0.001)}
	for i := range g.Black {
		g.Black[i] = int16(r.IntN(400) - 200)
		g.White[i] = g.Black[i] + int16(500+r.IntN(6000))
	}
	return g
}

// edgeGauge is hardly valid.
func edgeGauge(r *rand.Rand) impl.Gauge {
	known := []float32{tiniest, 0x1p-126, 1e-6, math.Nextafter32(1, 0), 1}
	blacks := []int16{leastCount, leastCount + 1, -1, 0, 1, mostCount - 1}
	g := impl.Gauge{Drift: edgeDrifts()[r.IntN(len(edgeDrifts()))]}
	for i := range g.Black {
		g.Black[i] = blacks[r.IntN(len(blacks))]
		g.White[i] = g.Black[i] + 1
		if r.IntN(2) == 0 {
			g.White[i] = mostCount
		}
		g.Known[i] = known[r.IntN(len(known))]
	}
	return g
}

// edgeDrifts are drifts at the edges, and hardly any.
func edgeDrifts() []float32 {
	return []float32{0.001, -0.001, 0, minus0, tiniest, -tiniest, 1e-9, -1e-5}
}

// notDrifts are drifts of no valid gauge.
func notDrifts() []float32 {
	beyond := math.Nextafter32(0.001, 1)
	return []float32{beyond, -beyond, 0.0011, -0.01, 1, -1, largest, -largest, infinite, -infinite, nan}
}

type badGauge struct {
	name  string
	gauge impl.Gauge
}

// notGauges are not valid by one number alone.
func notGauges() []badGauge {
	var list []badGauge
	for i := range 16 {
		for _, pair := range [][2]int16{{0, 0}, {1, 0}, {0, -1}, {mostCount, leastCount}, {mostCount, mostCount}, {leastCount, leastCount}} {
			g := plainGauge()
			g.Black[i], g.White[i] = pair[0], pair[1]
			list = append(list, badGauge{"white is not greater than black", g})
		}
		for _, a := range append(notShares(), 0, minus0) {
			g := plainGauge()
			g.Known[i] = a
			list = append(list, badGauge{"such a known number", g})
		}
	}
	for _, drift := range notDrifts() {
		g := plainGauge()
		g.Drift = drift
		list = append(list, badGauge{"such a drift", g})
	}
	return append(list, badGauge{"nothing", impl.Gauge{}})
}

func anyCounts(r *rand.Rand) impl.Counts {
	var c impl.Counts
	for i := range c {
		c[i] = int16(r.Uint32())
	}
	return c
}

// edgeCounts are counts at the ends and beside them.
func edgeCounts(r *rand.Rand) impl.Counts {
	list := []int16{leastCount, leastCount + 1, -1, 0, 1, mostCount - 1, mostCount}
	var c impl.Counts
	for i := range c {
		c[i] = list[r.IntN(len(list))]
	}
	return c
}

// samplesAt has samples at one turn, each of which counts the same everywhere.
func samplesAt(turn int64, counts ...int16) []impl.Sample {
	var list []impl.Sample
	for _, n := range counts {
		list = append(list, impl.Sample{Turn: turn, Counts: flatCounts(n)})
	}
	return list
}

// samplesOfTurns has no counts.
func samplesOfTurns(turns ...int64) []impl.Sample {
	var list []impl.Sample
	for _, turn := range turns {
		list = append(list, impl.Sample{Turn: turn})
	}
	return list
}

// randomSamples has turns of which some are equal, and counts of any kind.
func randomSamples(r *rand.Rand, count int) []impl.Sample {
	var list []impl.Sample
	turn := int64(0)
	for n := range count {
		s := impl.Sample{Turn: turn, Counts: anyCounts(r)}
		if n%3 == 1 {
			s.Counts = edgeCounts(r)
		}
		list = append(list, s)
		turn += r.Int64N(3) * r.Int64N(impl.MaxTurn/200)
	}
	return list
}

type badSamples struct {
	name string
	list []impl.Sample
}

// notSamples are lists of samples that are not valid.
func notSamples() []badSamples {
	tooMany := make([]impl.Sample, impl.MaxSamples+1)
	lastOutOfOrder := make([]impl.Sample, impl.MaxSamples)
	lastOutOfOrder[impl.MaxSamples-2].Turn = 1
	return []badSamples{
		{"one sample more than MaxSamples", tooMany},
		{"many samples", make([]impl.Sample, 100000)},
		{"the first turn is negative", samplesOfTurns(-1)},
		{"the first turn is the least number", samplesOfTurns(math.MinInt64, 0)},
		{"a turn beyond MaxTurn", samplesOfTurns(impl.MaxTurn + 1)},
		{"the last turn is beyond MaxTurn", samplesOfTurns(0, 1, impl.MaxTurn, impl.MaxTurn+1)},
		{"a turn that has its lowest bits alone in range", samplesOfTurns(0, 1<<32)},
		{"the greatest number", samplesOfTurns(0, math.MaxInt64)},
		{"two turns out of order", samplesOfTurns(1, 0)},
		{"the last two turns out of order", samplesOfTurns(3, 3, 5, 4)},
		{"the last sample of many is out of order", lastOutOfOrder},
		{"a negative turn in the middle", samplesOfTurns(0, -1, 0)},
	}
}

// goodSamples are lists of samples that are valid, also the ends of what is.
func goodSamples(r *rand.Rand) [][]impl.Sample {
	list := [][]impl.Sample{
		nil, {}, samplesOfTurns(0), samplesOfTurns(impl.MaxTurn), samplesOfTurns(0, impl.MaxTurn),
		samplesOfTurns(7, 7, 7), samplesAt(0, leastCount, mostCount, -1, 0, 1), make([]impl.Sample, impl.MaxSamples),
	}
	for count := range impl.MaxSamples + 1 {
		list = append(list, randomSamples(r, count))
	}
	return list
}

func countsOf(t *testing.T, g impl.Gauge, c impl.Curve, turn int64) impl.Counts {
	t.Helper()
	counts, code := impl.CountsOf(g, c, turn)
	wantCode(t, "CountsOf", code, impl.OK)
	return counts
}

func curveOfCounts(t *testing.T, g impl.Gauge, c impl.Counts, turn int64) impl.Curve {
	t.Helper()
	curve, code := impl.CurveOf(g, c, turn)
	wantCode(t, "CurveOf", code, impl.OK)
	return curve
}

func packetOf(t *testing.T, list []impl.Sample) []byte {
	t.Helper()
	data, code := impl.PacketOf(list)
	wantCode(t, "PacketOf", code, impl.OK)
	return data
}

func wantSamples(t *testing.T, name string, got []impl.Sample, code int64, wanted []impl.Sample) {
	t.Helper()
	wantCode(t, name, code, impl.OK)
	if !slices.Equal(got, wanted) {
		t.Errorf("%s: got %v, want %v", name, got, wanted)
	}
}

// sameGauge is what the document calls the same in all, told without the program.
func sameGauge(g, h impl.Gauge) bool {
	for i := range g.Black {
		if g.Black[i] != h.Black[i] || g.White[i] != h.White[i] {
			return false
		}
	}
	return sameCurve(g.Known, h.Known) && same(g.Drift, h.Drift)
}

func wantGauge(t *testing.T, name string, got impl.Gauge, code int64, wanted impl.Gauge) {
	t.Helper()
	wantCode(t, name, code, impl.OK)
	if !sameGauge(got, wanted) {
		t.Errorf("%s: got %v, want %v", name, got, wanted)
	}
}

func sortByTurn(list []impl.Sample) {
	slices.SortStableFunc(list, func(s, u impl.Sample) int { return int(s.Turn - u.Turn) })
}
