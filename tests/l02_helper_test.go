package tests

import (
	"math/rand/v2"
	"testing"

	"loop.example/g01213/impl"
)

func flatLayer(k, s, thick float32) impl.Layer {
	return impl.Layer{K: impl.FlatCurve(k), S: impl.FlatCurve(s), Thick: thick}
}

func flatFilm(r, b, t float32) impl.Film {
	return impl.Film{R: impl.FlatCurve(r), B: impl.FlatCurve(b), T: impl.FlatCurve(t)}
}

// The layers that follow have errors, or films at the edge, with a thickness of 1024, in which each of the thin layers has K and S themselves.
var (
	// stuckLayer reflects all already when it is thin, so that 0 is divided by 0.
	stuckLayer = flatLayer(0, 1, 1024)
	// strongLayer scatters a little more than all.
	strongLayer = flatLayer(0, 1.0000001, 1024)
	// mirrorLayer reflects 1.0000005, a little more than all, by its roundings.
	mirrorLayer = flatLayer(0, 0.9907265, 1024)
	// wornLayer lets -0.0000049 through by its roundings, and reflects a little less than 1.
	wornLayer = flatLayer(0, 0.99892336, 1024)
)

func sameFilm(f, g impl.Film) bool {
	return sameCurve(f.R, g.R) && sameCurve(f.B, g.B) && sameCurve(f.T, g.T)
}

func wantFilm(t *testing.T, name string, got, want impl.Film) {
	t.Helper()
	if sameFilm(got, want) {
		return
	}
	for i := range got.R {
		g, w := impl.Three{got.R[i], got.B[i], got.T[i]}, impl.Three{want.R[i], want.B[i], want.T[i]}
		if !sameThree(g, w) {
			t.Errorf("%s: got %v at the wavelength %d, want %v", name, g, i, w)
			return
		}
	}
}

// wantNearCurve allows each number to be off by so much.
func wantNearCurve(t *testing.T, name string, got, want impl.Curve, by float64) {
	t.Helper()
	for i := range got {
		if !near(float64(got[i]), float64(want[i]), by) {
			t.Errorf("%s: got %v at the wavelength %d, want nearly %v", name, got[i], i, want[i])
			return
		}
	}
}

func wantNearFilm(t *testing.T, name string, got, want impl.Film, by float64) {
	t.Helper()
	wantNearCurve(t, name+", from above", got.R, want.R, by)
	wantNearCurve(t, name+", from below", got.B, want.B, by)
	wantNearCurve(t, name+", through", got.T, want.T, by)
}

func filmOf(t *testing.T, x impl.Layer) impl.Film {
	t.Helper()
	f, code := impl.FilmOf(x)
	wantCode(t, "FilmOf", code, impl.OK)
	return f
}

func addFilms(t *testing.T, f, g impl.Film) impl.Film {
	t.Helper()
	both, code := impl.AddFilms(f, g)
	wantCode(t, "AddFilms", code, impl.OK)
	return both
}

func stackOf(t *testing.T, list ...impl.Layer) impl.Film {
	t.Helper()
	f, code := impl.StackOf(list)
	wantCode(t, "StackOf", code, impl.OK)
	return f
}

func overBacking(t *testing.T, f impl.Film, backing impl.Curve) impl.Curve {
	t.Helper()
	c, code := impl.OverBacking(f, backing)
	wantCode(t, "OverBacking", code, impl.OK)
	return c
}

func randomLayer(r *rand.Rand, k, s, thick float64) impl.Layer {
	return impl.Layer{K: randomCurve(r, 0, k), S: randomCurve(r, 0, s), Thick: randomBetween(r, 0, thick)}
}

// randomFilm reflects and lets through no more than all.
func randomFilm(r *rand.Rand) impl.Film {
	var f impl.Film
	for i := range f.T {
		f.T[i] = randomBetween(r, 0, 1)
		f.R[i] = randomBetween(r, 0, 1-float64(f.T[i]))
		f.B[i] = randomBetween(r, 0, 1-float64(f.T[i]))
	}
	return f
}
