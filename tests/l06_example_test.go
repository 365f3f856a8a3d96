package tests

import (
	"testing"

	"loop.example/g01213/impl"
)

// The example of chapter 6, word by word.
func TestExampleOfChapter6(t *testing.T) {
	g := plainGauge()
	counts := countsOf(t, g, impl.FlatCurve(0.25), 0)
	want(t, "FlatCurve 0.25 counts", counts, flatCounts(500))
	wantCurve(t, "this is 0.25 again", curveOfCounts(t, g, counts, 0), impl.FlatCurve(0.25))
	g.Drift = 0.001
	want(t, "FlatCurve 0.25 counts at the turn 1000", countsOf(t, g, impl.FlatCurve(0.25), 1000), flatCounts(1000))
	middle, code := impl.MiddleCounts(samplesAt(0, 1, 9, 2))
	wantFound(t, "MiddleCounts of 1, 9 and 2", middle, code, flatCounts(2))
	g.Drift = -0.001
	left, code := impl.LampLeft(g, 0.5)
	wantFound(t, "LampLeft of -0.001 and 0.5", left, code, 500)
}
