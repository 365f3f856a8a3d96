package tests

import (
	"math"
	"testing"

	"loop.example/g01213/impl"
)

// P13, curves are found by their counts, within a count.

func TestP13CurvesAreFoundByTheirCounts(t *testing.T) {
	r := newRandom(1301)
	for n := range 500 {
		g, c, turn := randomGauge(r), randomCurve(r, 0, 1.2), someTurns()[n%5]
		if n%2 == 0 {
			g.Drift, turn = randomBetween(r, 0, 1e-5), r.Int64N(impl.MaxTurn+1)
		}
		counts := countsOf(t, g, c, turn)
		if impl.IsSaturated(counts) {
			t.Errorf("the counts of an ordinary gauge are saturated: %v", counts)
		}
		found := curveOfCounts(t, g, counts, turn)
		lamp := 1 + float64(g.Drift)*float64(turn)
		for w := range c {
			count := float64(g.Known[w]) / (float64(g.White[w]-g.Black[w]) * lamp) // what a count stands for
			wantTrue(t, "a curve is found within a count", near(float64(found[w]), float64(c[w]), 0.501*count))
		}
	}
}

func TestP13CountsAreFoundByTheirCurves(t *testing.T) {
	r := newRandom(1302)
	for n := range 500 {
		g, counts, turn := randomGauge(r), anyCounts(r), someTurns()[n%5]
		switch n % 3 {
		case 0:
			g, counts = wideGauge(), edgeCounts(r)
			g.Drift = edgeDrifts()[n%len(edgeDrifts())]
		case 1:
			g = wideGauge()
			g.Known = randomCurve(r, 0.01, 1)
		}
		if g.Drift >= 0 && n%2 == 0 {
			turn = r.Int64N(impl.MaxTurn + 1)
		}
		back := countsOf(t, g, curveOfCounts(t, g, counts, turn), turn)
		want(t, "counts are found again", back, counts)
	}
}

func TestP13BlackAndWhiteAreCounted(t *testing.T) {
	r := newRandom(1303)
	for range 100 {
		g := randomGauge(r)
		want(t, "black counts", countsOf(t, g, impl.Curve{}, 0), g.Black)
		want(t, "white counts", countsOf(t, g, g.Known, 0), g.White)
		wantCurve(t, "black is found", curveOfCounts(t, g, g.Black, 999), impl.Curve{})
		wantNearCurve(t, "white is found", curveOfCounts(t, g, g.White, 0), g.Known, 1e-6)
	}
	wide := wideGauge()
	want(t, "white, as far from black as can be", countsOf(t, wide, impl.FlatCurve(1), 0), flatCounts(mostCount))
	want(t, "black, as far from white as can be", countsOf(t, wide, impl.FlatCurve(0), 0), flatCounts(leastCount))
	want(t, "half of white", countsOf(t, wide, impl.FlatCurve(0.5), 0), flatCounts(0))
	wantCurve(t, "white", curveOfCounts(t, wide, flatCounts(mostCount), 0), impl.FlatCurve(1))
	wantCurve(t, "black", curveOfCounts(t, wide, flatCounts(leastCount), 0), impl.FlatCurve(0))
	wantCurve(t, "one count", curveOfCounts(t, wide, flatCounts(leastCount+1), 0), impl.FlatCurve(1.0/65535))
	dark := impl.Gauge{Black: flatCounts(mostCount - 1), White: flatCounts(mostCount), Known: impl.FlatCurve(1)}
	wantCurve(t, "the least count, far below black", curveOfCounts(t, dark, flatCounts(leastCount), 0), impl.FlatCurve(-65534))
	light := impl.Gauge{Black: flatCounts(leastCount), White: flatCounts(leastCount + 1), Known: impl.FlatCurve(1)}
	wantCurve(t, "the greatest count, far above white", curveOfCounts(t, light, flatCounts(mostCount), 0), impl.FlatCurve(65535))
}

func TestP13CountsAreHeld(t *testing.T) {
	g := plainGauge() // a curve of a counts 2000 * a
	g.White = flatCounts(mostCount)
	g.Known = impl.FlatCurve(1)
	for _, c := range []struct {
		a float32
		n int16
	}{{1, mostCount}, {1.00002, mostCount}, {2, mostCount}, {largest, mostCount}, {-1, -mostCount}, {-1.00003, leastCount}, {-1.1, leastCount}, {-largest, leastCount}} {
		want(t, "a count is held", countsOf(t, g, impl.FlatCurve(c.a), 0), flatCounts(c.n))
		for i := range 16 {
			counts := countsOf(t, g, flatBut(0.25, i, c.a), 0)
			want(t, "each count is held by itself", counts, countsBut(8192, i, c.n))
			want(t, "IsSaturated", impl.IsSaturated(counts), c.n == mostCount || c.n == leastCount)
		}
	}
	g.Drift = 0.001
	want(t, "a lamp that has become strong", countsOf(t, g, impl.FlatCurve(0.01), impl.MaxTurn), flatCounts(mostCount))
}

func TestP13CountsThatAreSaturated(t *testing.T) {
	for i := range 16 {
		for _, n := range []int16{mostCount, leastCount} {
			wantTrue(t, "IsSaturated at one wavelength", impl.IsSaturated(countsBut(0, i, n)))
		}
		for _, n := range []int16{0, -1, 1, mostCount - 1, leastCount + 1, -mostCount} {
			wantTrue(t, "IsSaturated, a count that is not at an end", !impl.IsSaturated(countsBut(5, i, n)))
			wantTrue(t, "IsSaturated, other counts", !impl.IsSaturated(flatCounts(n)))
		}
	}
}

func TestP13NoiseOfNothing(t *testing.T) {
	r := newRandom(1304)
	for range 100 {
		c, seed := anyCounts(r), r.Uint32()
		shaken, last, code := impl.ShakeCounts(c, seed, 0)
		wantFound(t, "ShakeCounts with most 0", shaken, code, c)
		_, wanted := oracleShaken(c, seed, 0)
		want(t, "the seed is used all the same", last, wanted)
	}
	_, last, _ := impl.ShakeCounts(impl.Counts{}, 0, 0)
	seed := uint32(0)
	for range 16 {
		seed = 1664525*seed + 1013904223
	}
	want(t, "the last seed", last, seed)
}

func TestP13NoiseIsHeld(t *testing.T) {
	r := newRandom(1305)
	held := map[int16]int{}
	for range 200 {
		seed := r.Uint32()
		for _, n := range []int16{mostCount, leastCount, 0} {
			for _, most := range []int16{1, 5, 1000, mostCount} {
				shaken, last, code := impl.ShakeCounts(flatCounts(n), seed, most)
				wanted, next := oracleShaken(flatCounts(n), seed, most)
				wantFound(t, "ShakeCounts at an end", shaken, code, wanted)
				want(t, "the last seed", last, next)
				for _, m := range shaken {
					wantTrue(t, "noise is not greater than most", math.Abs(float64(m)-float64(n)) <= float64(most))
					if m == n && n != 0 {
						held[n]++
					}
				}
			}
		}
	}
	wantTrue(t, "half of the counts at the ends are held", held[mostCount] > 5000 && held[leastCount] > 5000)
}

// With most 1 there are three kinds of noise, each of which comes about as often as the others.
func TestP13NoiseOfAllKinds(t *testing.T) {
	often := map[int16]int{}
	seed := uint32(7)
	for range 200 {
		shaken, next, code := impl.ShakeCounts(flatCounts(100), seed, 1)
		wantCode(t, "ShakeCounts", code, impl.OK)
		seed = next
		for _, n := range shaken {
			often[n]++
		}
	}
	want(t, "kinds of noise", len(often), 3)
	for _, n := range []int16{99, 100, 101} {
		wantTrue(t, "each kind of noise comes often", often[n] > 900)
	}
}
