package tests

import (
	"math/rand/v2"
	"slices"
	"testing"

	"loop.example/g01213/impl"
)

// P17, what a layer reflects is found again by its counts; each vat has what was ordered, once, whatever is lost.

// fineGauge counts so much that a count stands for little.
func fineGauge(r *rand.Rand) impl.Gauge {
	g := impl.Gauge{Known: randomCurve(r, 0.5, 1), Drift: randomBetween(r, 0, 1e-6)}
	for i := range g.Black {
		g.Black[i] = int16(r.IntN(400) - 200)
		g.White[i] = g.Black[i] + int16(5000+r.IntN(5000))
	}
	return g
}

// countOf is what a count stands for.
func countOf(g impl.Gauge, w int, turn int64) float64 {
	lamp := 1 + float64(g.Drift)*float64(turn)
	return float64(g.Known[w]) / (float64(int(g.White[w])-int(g.Black[w])) * lamp)
}

// What a layer over a backing reflects is counted, sent as a packet, read, and found again within a count.
func TestP17WhatALayerReflectsIsFoundAgain(t *testing.T) {
	r := newRandom(1701)
	for range 300 {
		layer, backing, g := randomLayer(r, 2, 4, 1), randomCurve(r, 0, 1), fineGauge(r)
		reflected, code := impl.PaintOver(layer, backing)
		wantCode(t, "PaintOver", code, impl.OK)
		var list []impl.Sample
		for turn := int64(0); turn <= impl.MaxTurn; turn += 1 + r.Int64N(20000) {
			list = append(list, impl.Sample{Turn: turn, Counts: countsOf(t, g, reflected, turn)})
		}
		read, code := impl.ReadPacket(packetOf(t, list))
		wantSamples(t, "ReadPacket", read, code, list)
		for _, s := range read {
			wantTrue(t, "the counts are not saturated", !impl.IsSaturated(s.Counts))
			wantFoundAgain(t, curveOfCounts(t, g, s.Counts, s.Turn), reflected, g, s.Turn)
		}
		mean, spread, code := impl.CurvesOf(g, read)
		wantCode(t, "CurvesOf", code, impl.OK)
		wantFoundAgain(t, mean, reflected, g, 0)
		for w := range spread {
			wantTrue(t, "samples are at most a count apart", float64(spread[w]) <= 1.01*countOf(g, w, 0))
		}
	}
}

// wantFoundAgain asks for half a count, and a little more for the roundings of great counts.
func wantFoundAgain(t *testing.T, found, reflected impl.Curve, g impl.Gauge, turn int64) {
	t.Helper()
	for w := range found {
		wantTrue(t, "what is reflected is found again within a count", near(float64(found[w]), float64(reflected[w]), 0.505*countOf(g, w, turn)))
	}
}

// The way of the whole document: pigments are matched, painted, counted, and poured by works.
func TestP17FromAMatchToTheVats(t *testing.T) {
	r := newRandom(1702)
	for range 40 {
		x := randomShelf(r, 2+r.IntN(3))
		target := paintOf(t, x, randomDrops(r, len(x.Pigments), 50))
		m := matchCurve(t, x, target, impl.MaxSweeps)
		drops := dropsFor(t, x, m.parts, 100)
		mixture := mixDrops(t, x, drops)
		layer, code := impl.LayerOf(mixture.K, mixture.S, 2)
		wantCode(t, "LayerOf", code, impl.OK)
		reflected, code := impl.PaintOver(layer, impl.FlatCurve(0.8))
		wantCode(t, "PaintOver", code, impl.OK)
		g := fineGauge(r)
		torn, code := impl.TornSamples(packetOf(t, []impl.Sample{{Turn: 9, Counts: countsOf(t, g, reflected, 9)}, {Turn: 10}})[:60])
		wantCode(t, "TornSamples", code, impl.OK)
		want(t, "samples of a torn packet", len(torn), 1)
		wantFoundAgain(t, curveOfCounts(t, g, torn[0].Counts, torn[0].Turn), reflected, g, 9)
		w := worksOf(1+r.Int64N(impl.MaxRooms), impl.Batch{Name: "wall"}, impl.Batch{Name: "door"})
		for i, n := range drops {
			w.Batches[0].Drops[i], w.Batches[1].Drops[i] = int64(n), 3*int64(n)
		}
		wantFinished(t, w, lossyDeeds(r, w, 120))
	}
}

// lossyDeeds ask for all tasks over a line that loses and copies notes, and an office that crashes.
func lossyDeeds(r *rand.Rand, w impl.Works, count int) []impl.Deed {
	tasks := int64(len(oracleTasks(w)))
	var list []impl.Deed
	for len(list) < count {
		a := r.Int64N(3)
		list = append(list, impl.Deed{Kind: impl.DdAsk, A: r.Int64N(tasks)}, []impl.Deed{
			{Kind: impl.DdDeliver, A: a}, {Kind: impl.DdDeliver}, {Kind: impl.DdDeliver}, {Kind: impl.DdCopy, A: a}, {Kind: impl.DdDrop, A: a}, {Kind: impl.DdSave}, {Kind: impl.DdCrash},
		}[r.IntN(7)])
	}
	return list
}

// Each vat has what was ordered, once, whatever is lost, comes twice, or is asked again behind a crash.
func TestP17EachVatHasWhatWasOrdered(t *testing.T) {
	r := newRandom(1703)
	for n := range 500 {
		w := randomWorks(r)
		if n%50 == 0 {
			w = fullWorks()
		}
		text := impl.OrdersText(w)
		compiled, _, code := impl.CompileOrders(text)
		wantWorks(t, "CompileOrders", compiled, code, w)
		if len(oracleTasks(w)) == 0 {
			continue
		}
		deeds := lossyDeeds(r, w, r.IntN(100))
		wantFinished(t, compiled, deeds)
		total, code := impl.TotalOf(compiled)
		wantCode(t, "TotalOf", code, impl.OK)
		f := floorAfter(t, compiled, slices.Concat(deeds, finishDeeds(t, compiled, deeds)))
		var poured impl.Vat
		for _, vat := range f.Vats {
			for jar, drops := range vat {
				poured[jar] += drops
			}
		}
		want(t, "all vats have the total", poured, total)
	}
}

// Tasks are asked again until the office knows all, and each deed may be the last one ahead of a crash.
func TestP17ACrashBehindEachDeed(t *testing.T) {
	w := exampleWorks()
	plan := finishDeeds(t, w, nil)
	for at := range len(plan) + 1 {
		for _, kind := range []int64{impl.DdCrash, impl.DdDrop, impl.DdCopy, impl.DdDeliver, impl.DdSave} {
			deeds := append(slices.Clone(plan[:at]), impl.Deed{Kind: kind})
			wantFinished(t, w, deeds)
			wantFinished(t, w, append(deeds, plan[at:]...))
			wantFinished(t, w, append(deeds, impl.Deed{Kind: impl.DdCrash}))
		}
	}
}
