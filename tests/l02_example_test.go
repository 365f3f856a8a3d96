package tests

import (
	"testing"

	"loop.example/g01213/impl"
)

// The example of chapter 2, word by word.
func TestExampleOfChapter2(t *testing.T) {
	r, code := impl.OfRatio(impl.FlatCurve(0))
	wantCode(t, "OfRatio 0", code, impl.OK)
	wantCurve(t, "OfRatio 0", r, impl.FlatCurve(1))
	r, code = impl.OfRatio(impl.FlatCurve(0.5))
	wantCode(t, "OfRatio 0.5", code, impl.OK)
	wantNearCurve(t, "OfRatio 0.5", r, impl.FlatCurve(0.382), 1e-4)
	q, code := impl.RatioOf(impl.FlatCurve(0.5))
	wantCode(t, "RatioOf 0.5", code, impl.OK)
	wantCurve(t, "RatioOf 0.5", q, impl.FlatCurve(0.25))

	half, code := impl.MirrorFilm(0.5)
	wantCode(t, "MirrorFilm 0.5", code, impl.OK)
	third := float32(1) / 3
	wantNearFilm(t, "two half mirrors", addFilms(t, half, half), flatFilm(2*third, 2*third, third), 1e-6)

	x, code := impl.LayerOf(impl.FlatCurve(0), impl.FlatCurve(1), 1)
	wantCode(t, "LayerOf", code, impl.OK)
	wantNearCurve(t, "FilmOf K 0, S 1 and Thick 1", filmOf(t, x).R, impl.FlatCurve(0.5), 1e-3)

	backing, _ := impl.Bump(4, 3)
	over, code := impl.PaintOver(flatLayer(1, 1, 0), backing)
	wantCode(t, "PaintOver no thickness", code, impl.OK)
	wantCurve(t, "a layer of no thickness over a backing", over, backing)
}
