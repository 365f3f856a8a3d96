package tests

import (
	"math"
	"slices"
	"testing"

	"loop.example/g01213/impl"
)

func TestP1LimitsOfInstruments(t *testing.T) {
	want(t, "MaxSamples", impl.MaxSamples, 64)
	want(t, "MaxTurn", impl.MaxTurn, 100000)
}

func TestP1ValidGauges(t *testing.T) {
	r := newRandom(611)
	for range 200 {
		wantTrue(t, "ValidGauge", impl.ValidGauge(randomGauge(r)) && impl.ValidGauge(edgeGauge(r)))
	}
	wantTrue(t, "ValidGauge, as far apart as can be", impl.ValidGauge(wideGauge()))
	for _, drift := range edgeDrifts() {
		g := plainGauge()
		g.Drift = drift
		wantTrue(t, "ValidGauge with a drift at the edge", impl.ValidGauge(g))
	}
	for _, bad := range notGauges() {
		wantTrue(t, "ValidGauge, "+bad.name, !impl.ValidGauge(bad.gauge))
	}
}

func TestP1SameGauges(t *testing.T) {
	r := newRandom(612)
	otherNaN := math.Float32frombits(0xffc00001)
	for range 100 {
		g := impl.Gauge{Black: anyCounts(r), White: anyCounts(r), Known: anyCurve(r), Drift: anyCurve(r)[0]}
		wantTrue(t, "a gauge is the same as itself", impl.SameGauge(g, g))
		wantTrue(t, "another gauge", !impl.SameGauge(g, impl.Gauge{Black: anyCounts(r), White: g.White, Known: g.Known, Drift: g.Drift}))
	}
	for i := range 16 {
		for _, pair := range [][2]float32{{0, minus0}, {0, nan}, {nan, 0}, {0.5, 0.25}, {nan, otherNaN}, {minus0, minus0}, {infinite, -infinite}} {
			g, h := plainGauge(), plainGauge()
			g.Known[i], h.Known[i] = pair[0], pair[1]
			want(t, "SameGauge, Known", impl.SameGauge(g, h), same(pair[0], pair[1]))
			g, h = plainGauge(), plainGauge()
			g.Drift, h.Drift = pair[0], pair[1]
			want(t, "SameGauge, Drift", impl.SameGauge(g, h), same(pair[0], pair[1]))
		}
		g := plainGauge()
		g.Black[i]--
		wantTrue(t, "SameGauge, Black", !impl.SameGauge(g, plainGauge()) && !impl.SameGauge(plainGauge(), g))
		g = plainGauge()
		g.White[i]++
		wantTrue(t, "SameGauge, White", !impl.SameGauge(g, plainGauge()) && !impl.SameGauge(plainGauge(), g))
	}
}

func TestP1ValidSamples(t *testing.T) {
	r := newRandom(613)
	for _, list := range goodSamples(r) {
		wantTrue(t, "ValidSamples", impl.ValidSamples(list))
	}
	for _, bad := range notSamples() {
		wantTrue(t, "ValidSamples, "+bad.name, !impl.ValidSamples(bad.list))
	}
	wantTrue(t, "ValidSamples of turns in order", impl.ValidSamples(samplesOfTurns(0, 0, 1, 5, 5, impl.MaxTurn, impl.MaxTurn)))
}

func wantNoCurves(t *testing.T, name string, mean, spread impl.Curve, code, wanted int64) {
	t.Helper()
	wantNone(t, "CurvesOf, the mean, "+name, mean, code, wanted)
	wantNone(t, "CurvesOf, the spread, "+name, spread, code, wanted)
}

// A gauge that is not valid comes first, whatever is wrong beside it.
func TestP1GaugesThatAreNotValid(t *testing.T) {
	for _, bad := range notGauges() {
		for _, turn := range []int64{0, 1000, -1, impl.MaxTurn + 1} {
			for _, a := range []float32{0.5, nan} {
				counts, code := impl.CountsOf(bad.gauge, impl.FlatCurve(a), turn)
				wantNone(t, "CountsOf, "+bad.name, counts, code, impl.ErrInvalid)
			}
			c, code := impl.CurveOf(bad.gauge, flatCounts(1), turn)
			wantNone(t, "CurveOf, "+bad.name, c, code, impl.ErrInvalid)
		}
		for _, list := range [][]impl.Sample{nil, samplesOfTurns(0), samplesOfTurns(5), samplesOfTurns(1, 0)} {
			drift, code := impl.DriftOf(bad.gauge, list)
			wantNone(t, "DriftOf, "+bad.name, drift, code, impl.ErrInvalid)
			mean, spread, code := impl.CurvesOf(bad.gauge, list)
			wantNoCurves(t, bad.name, mean, spread, code, impl.ErrInvalid)
		}
		for _, share := range []float32{0, 0.5, 1, 2, -1, nan} {
			left, code := impl.LampLeft(bad.gauge, share)
			wantNone(t, "LampLeft, "+bad.name, left, code, impl.ErrInvalid)
		}
	}
}

// A list of samples that is not valid comes first, too.
func TestP1SamplesThatAreNotValid(t *testing.T) {
	darkening := plainGauge()
	darkening.Drift = -0.001
	for _, bad := range notSamples() {
		mean, code := impl.MeanCounts(bad.list)
		wantNone(t, "MeanCounts, "+bad.name, mean, code, impl.ErrInvalid)
		middle, code := impl.MiddleCounts(bad.list)
		wantNone(t, "MiddleCounts, "+bad.name, middle, code, impl.ErrInvalid)
		for _, most := range []int64{-1, 0, 10, math.MinInt64} {
			near, code := impl.WithoutFar(bad.list, most)
			wantNoList(t, "WithoutFar, "+bad.name, near, code, impl.ErrInvalid)
		}
		for _, other := range [][]impl.Sample{nil, samplesAt(0, 1), bad.list} {
			for _, a := range []float32{0.5, 0, nan} {
				g, code := impl.GaugeOf(bad.list, other, impl.FlatCurve(a))
				wantNone(t, "GaugeOf, black, "+bad.name, g, code, impl.ErrInvalid)
				g, code = impl.GaugeOf(other, bad.list, impl.FlatCurve(a))
				wantNone(t, "GaugeOf, white, "+bad.name, g, code, impl.ErrInvalid)
			}
		}
		drift, code := impl.DriftOf(plainGauge(), bad.list)
		wantNone(t, "DriftOf, "+bad.name, drift, code, impl.ErrInvalid)
		for _, g := range []impl.Gauge{plainGauge(), darkening} {
			mean, spread, code := impl.CurvesOf(g, bad.list)
			wantNoCurves(t, bad.name, mean, spread, code, impl.ErrInvalid)
		}
		data, code := impl.PacketOf(bad.list)
		wantNoList(t, "PacketOf, "+bad.name, data, code, impl.ErrInvalid)
	}
}

func TestP1NoSamples(t *testing.T) {
	for _, none := range [][]impl.Sample{nil, {}} {
		mean, code := impl.MeanCounts(none)
		wantNone(t, "MeanCounts of none", mean, code, impl.ErrNotFound)
		middle, code := impl.MiddleCounts(none)
		wantNone(t, "MiddleCounts of none", middle, code, impl.ErrNotFound)
		for _, most := range []int64{0, 1, math.MaxInt64} {
			near, code := impl.WithoutFar(none, most)
			wantNoList(t, "WithoutFar of none", near, code, impl.ErrNotFound)
		}
		for _, most := range []int64{-1, -2, math.MinInt64} {
			near, code := impl.WithoutFar(none, most)
			wantNoList(t, "WithoutFar of none, and a negative most", near, code, impl.ErrRange)
		}
		for _, a := range []float32{0.5, 0, nan} { // also where the gauge would not be valid
			for _, both := range [][2][]impl.Sample{{none, samplesAt(0, 5)}, {samplesAt(0, 5), none}, {none, none}} {
				g, code := impl.GaugeOf(both[0], both[1], impl.FlatCurve(a))
				wantNone(t, "GaugeOf none", g, code, impl.ErrNotFound)
			}
		}
		drift, code := impl.DriftOf(plainGauge(), none)
		wantNone(t, "DriftOf none", drift, code, impl.ErrNotFound)
		mean2, spread, code := impl.CurvesOf(plainGauge(), none)
		wantNoCurves(t, "none", mean2, spread, code, impl.ErrNotFound)
	}
}

func TestP1TurnsOutOfRange(t *testing.T) {
	for _, drift := range edgeDrifts() {
		g := plainGauge()
		g.Drift = drift
		for _, turn := range []int64{-1, -2, impl.MaxTurn + 1, 1 << 32, 1<<32 + 5, math.MinInt64, math.MaxInt64} {
			for _, a := range []float32{0.5, nan, infinite} {
				counts, code := impl.CountsOf(g, impl.FlatCurve(a), turn)
				wantNone(t, "CountsOf at such a turn", counts, code, impl.ErrRange)
			}
			c, code := impl.CurveOf(g, flatCounts(500), turn)
			wantNone(t, "CurveOf at such a turn", c, code, impl.ErrRange)
		}
	}
}

func TestP1LampsThatGiveNoLight(t *testing.T) {
	for _, c := range []struct {
		drift float32
		turn  int64
		code  int64
	}{
		{-0.001, 0, impl.OK}, {-0.001, 999, impl.OK}, {-0.001, 1000, impl.ErrState}, {-0.001, 1001, impl.ErrState}, {-0.001, impl.MaxTurn, impl.ErrState},
		{-0.0001, 9999, impl.OK}, {-0.0001, 10000, impl.ErrState}, {-1e-5, 99999, impl.OK}, {-1e-5, impl.MaxTurn, impl.ErrState},
		{-9.9e-6, impl.MaxTurn, impl.OK}, {minus0, impl.MaxTurn, impl.OK}, {0.001, impl.MaxTurn, impl.OK}, {0.001, 0, impl.OK},
	} {
		g := plainGauge()
		g.Drift = c.drift
		counts, code := impl.CountsOf(g, impl.FlatCurve(0.25), c.turn)
		wantCode(t, "CountsOf", code, c.code)
		curve, code := impl.CurveOf(g, flatCounts(500), c.turn)
		wantCode(t, "CurveOf", code, c.code)
		list := []impl.Sample{{Counts: flatCounts(500)}, {Turn: c.turn, Counts: flatCounts(500)}}
		mean, spread, code := impl.CurvesOf(g, list)
		wantCode(t, "CurvesOf", code, c.code)
		if c.code == impl.OK {
			continue
		}
		wantNone(t, "CountsOf without light", counts, c.code, impl.ErrState)
		wantNone(t, "CurveOf without light", curve, c.code, impl.ErrState)
		wantNoCurves(t, "without light", mean, spread, code, impl.ErrState)
	}
}

func TestP1CurvesThatAreNotFinite(t *testing.T) {
	for _, g := range []impl.Gauge{plainGauge(), wideGauge()} {
		for i := range 16 {
			for _, a := range []float32{nan, infinite, -infinite} {
				counts, code := impl.CountsOf(g, flatBut(0.5, i, a), 3)
				wantNone(t, "CountsOf a curve that is not finite", counts, code, impl.ErrState)
			}
		}
	}
}

func TestP1OtherNumbersOutOfRange(t *testing.T) {
	for _, most := range []int16{-1, -2, -100, leastCount} {
		c, seed, code := impl.ShakeCounts(flatCounts(5), 12345, most)
		wantNone(t, "ShakeCounts with a negative most", c, code, impl.ErrRange)
		want(t, "the last seed beside an error", seed, 0)
	}
	for _, list := range [][]impl.Sample{samplesAt(0, 1), samplesAt(3, 1, 2, 3)} {
		for _, most := range []int64{-1, -70000, math.MinInt64} {
			near, code := impl.WithoutFar(list, most)
			wantNoList(t, "WithoutFar with a negative most", near, code, impl.ErrRange)
		}
	}
	for _, drift := range edgeDrifts() {
		g := plainGauge()
		g.Drift = drift
		for _, share := range notShares() {
			left, code := impl.LampLeft(g, share)
			wantNone(t, "LampLeft with such a share", left, code, impl.ErrRange)
		}
	}
}

// Lists have memory of their own, and what is passed in is neither changed nor kept.
func TestP1SamplesAreNotChanged(t *testing.T) {
	r := newRandom(614)
	room := randomSamples(r, 20)
	list, kept := room[:7], slices.Clone(room)
	first := instrumentResultsOf(plainGauge(), list, impl.FlatCurve(0.5), 3)
	wantTrue(t, "samples that are passed in are not changed", slices.Equal(room, kept))
	near, code := impl.WithoutFar(list, math.MaxInt64)
	wantSamples(t, "WithoutFar", near, code, kept[:7])
	data := packetOf(t, list)
	bytesRoom := append(slices.Clone(data), 1, 2, 3)
	given := bytesRoom[:len(data)]
	read, code := impl.ReadPacket(given)
	wantSamples(t, "ReadPacket", read, code, kept[:7])
	torn, code := impl.TornSamples(given)
	wantSamples(t, "TornSamples", torn, code, kept[:7])
	wantTrue(t, "data that are passed in are not changed", slices.Equal(bytesRoom, append(slices.Clone(data), 1, 2, 3)))
	for i := range room {
		room[i] = impl.Sample{Turn: -1}
	}
	for i := range bytesRoom {
		bytesRoom[i] = 99
	}
	for _, result := range [][]impl.Sample{near, read, torn} {
		wantSamples(t, "samples that are returned", result, impl.OK, kept[:7])
	}
	wantTrue(t, "a packet that is returned", slices.Equal(data, oraclePacket(kept[:7])))
	near[0], read[1], torn[2] = impl.Sample{}, impl.Sample{}, impl.Sample{}
	data[0] = 0
	again := instrumentResultsOf(plainGauge(), kept[:7], impl.FlatCurve(0.5), 3)
	wantTrue(t, "equal samples have equal results", slices.Equal(first, again))
	second := packetOf(t, kept[:7])
	wantTrue(t, "packets have memory of their own", slices.Equal(second, oraclePacket(kept[:7])))
}

// Arguments of any kind have equal results, and none makes a function panic.
func TestP1EqualResultsOfInstruments(t *testing.T) {
	r := newRandom(615)
	for n := range 300 {
		g, list, c := randomGauge(r), randomSamples(r, n%(impl.MaxSamples+2)), anyCurve(r)
		switch n % 4 {
		case 1:
			g = edgeGauge(r)
		case 2:
			g.Known = anyCurve(r)
		case 3:
			g = impl.Gauge{Black: anyCounts(r), White: anyCounts(r), Known: c, Drift: c[1]}
		}
		number := r.Int64N(2000) - 2
		if n%5 == 0 {
			number = int64(r.Uint64())
		}
		if n%6 == 0 && len(list) > 0 {
			list[r.IntN(len(list))].Turn = number
		}
		first, second := instrumentResultsOf(g, list, c, number), instrumentResultsOf(g, list, c, number)
		wantTrue(t, "the results of a second call", slices.Equal(first, second))
	}
}

// instrumentResultsOf has the bits of all that the functions of chapter 6 tell of these arguments.
func instrumentResultsOf(g impl.Gauge, list []impl.Sample, c impl.Curve, n int64) []int64 {
	var all []int64
	numbers := func(code int64, more ...float32) {
		for _, a := range more {
			all = append(all, int64(math.Float32bits(a)), int64(impl.ToCount(a)))
		}
		all = append(all, code)
	}
	counts := func(code int64, more impl.Counts) {
		for _, n := range more {
			all = append(all, int64(n))
		}
		all = append(all, code)
	}
	samples := func(list []impl.Sample, code int64) {
		for _, s := range list {
			counts(s.Turn, s.Counts)
		}
		all = append(all, code)
	}
	found, code := impl.CountsOf(g, c, n)
	counts(code, found)
	curve, code := impl.CurveOf(g, found, n)
	numbers(code, curve[:]...)
	shaken, seed, code := impl.ShakeCounts(found, uint32(n), int16(n))
	counts(code+int64(seed), shaken)
	mean, code := impl.MeanCounts(list)
	counts(code, mean)
	middle, code := impl.MiddleCounts(list)
	counts(code, middle)
	for _, most := range []int64{n, 20000} {
		samples(impl.WithoutFar(list, most))
	}
	made, code := impl.GaugeOf(list, list[len(list)/2:], c)
	counts(code, made.Black)
	drift, code := impl.DriftOf(g, list)
	numbers(code, drift)
	means, spreads, code := impl.CurvesOf(g, list)
	numbers(code, append(means[:], spreads[:]...)...)
	left, code := impl.LampLeft(g, c[0])
	all = append(all, left, code)
	data, code := impl.PacketOf(list)
	all = append(all, code)
	for i, b := range data {
		all = append(all, int64(b)<<(i%32))
	}
	samples(impl.ReadPacket(data))
	if len(data) > 0 {
		data[uint64(n)%uint64(len(data))] ^= byte(n)
	}
	samples(impl.ReadPacket(data))
	samples(impl.TornSamples(data))
	for _, is := range []bool{impl.ValidGauge(g), impl.SameGauge(g, made), impl.IsSaturated(found), impl.ValidSamples(list)} {
		if is {
			all = append(all, 1)
		}
		all = append(all, 0)
	}
	return all
}
