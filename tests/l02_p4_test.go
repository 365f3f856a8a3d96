package tests

import (
	"math"
	"testing"

	"loop.example/g01213/impl"
)

func TestP4RatiosAreFoundAgain(t *testing.T) {
	r := newRandom(41)
	for range 1000 {
		var q impl.Curve
		for i := range q {
			q[i] = float32(math.Exp2(float64(randomBetween(r, -10, 12))))
		}
		reflected, code := impl.OfRatio(q)
		wantCode(t, "OfRatio", code, impl.OK)
		back, code := impl.RatioOf(reflected)
		wantCode(t, "RatioOf", code, impl.OK)
		again, code := impl.OfRatio(back)
		wantCode(t, "OfRatio", code, impl.OK)
		for i := range q {
			wantTrue(t, "the ratio of what a ratio reflects", near(float64(back[i]), float64(q[i]), float64(q[i])*2e-5))
		}
		wantNearCurve(t, "what is reflected by the ratio of what is reflected", again, reflected, 1e-6)
		thick, code := impl.ThickOf(q, impl.FlatCurve(1))
		wantCode(t, "ThickOf", code, impl.OK)
		wantCurve(t, "ThickOf K of ratios and S 1", thick, reflected)
	}
}

func TestP4RatiosAtTheEnds(t *testing.T) {
	shares := map[float32]float32{1: 0, 0.5: 0.25, 0.25: 1.125, 0.75: 0.0625 / 1.5, 0x1p-128: 0x1p127, math.Nextafter32(0x1p-129, 1): 1 / (2 * math.Nextafter32(0x1p-129, 1))}
	for share, ratio := range shares {
		q, code := impl.RatioOf(flatBut(0.5, 3, share))
		wantCode(t, "RatioOf", code, impl.OK)
		wantCurve(t, "RatioOf", q, flatBut(0.25, 3, ratio))
	}
	ratios := map[float32]float32{0: 1, minus0: 1, tiniest: 1, 0.125: 1 / (float32(1.125) + float32(math.Sqrt(0.265625))), 0x1p60: 0x1p-61, 0x1p63: 0x1p-64, 0x1p64: 0, 1e30: 0, largest: 0}
	for ratio, share := range ratios {
		r, code := impl.OfRatio(flatBut(0, 12, ratio))
		wantCode(t, "OfRatio", code, impl.OK)
		wantCurve(t, "OfRatio", r, flatBut(1, 12, share))
	}
}

// 0 and -0 in K and S.
func TestP4RatiosOfNothing(t *testing.T) {
	for _, none := range []float32{0, minus0} {
		for _, s := range []float32{0, minus0, 1, tiniest, largest} {
			q, code := impl.RatioCurve(flatBut(1, 6, none), flatBut(2, 6, s))
			wantCode(t, "RatioCurve of nothing", code, impl.OK)
			wantCurve(t, "RatioCurve of nothing", q, flatBut(0.5, 6, 0))
		}
		for _, k := range []float32{0, minus0, 1, tiniest, largest} {
			r, code := impl.ThickOf(flatBut(0, 6, k), flatBut(2, 6, none))
			wantCode(t, "ThickOf what scatters nothing", code, impl.OK)
			wantCurve(t, "ThickOf what scatters nothing", r, flatBut(1, 6, 0))
		}
		r, code := impl.ThickOf(flatBut(0, 6, none), impl.FlatCurve(tiniest))
		wantCode(t, "ThickOf what absorbs nothing", code, impl.OK)
		wantCurve(t, "ThickOf what absorbs nothing", r, impl.FlatCurve(1))
	}
	q, code := impl.RatioCurve(impl.FlatCurve(tiniest), impl.FlatCurve(largest))
	wantCode(t, "RatioCurve that is too small for a number", code, impl.OK)
	wantCurve(t, "RatioCurve that is too small for a number", q, impl.Curve{})
	q, code = impl.RatioCurve(impl.FlatCurve(largest), impl.FlatCurve(1))
	wantCode(t, "the greatest ratio", code, impl.OK)
	wantCurve(t, "the greatest ratio", q, impl.FlatCurve(largest))
	dark, code := impl.ThickOf(impl.FlatCurve(largest), impl.FlatCurve(1))
	wantCode(t, "ThickOf the greatest ratio", code, impl.OK)
	wantCurve(t, "ThickOf the greatest ratio", dark, impl.Curve{})
}

// A doubling is what AddFilms tells of a film and itself: so two coats are the next doubling, to the last bit.
func TestP4TwoCoatsAreOneMoreDoubling(t *testing.T) {
	r := newRandom(42)
	for range 200 {
		x := randomLayer(r, 3, 3, 3)
		f := filmOf(t, x)
		two := stackOf(t, x, x)
		wantFilm(t, "two coats", two, addFilms(t, f, f))
		for i := range f.R {
			d, u := 1-times(f.R[i], f.R[i]), times(f.T[i], f.T[i])
			wantNumber(t, "two coats, reflected", two.R[i], f.R[i]+times(u, f.R[i])/d)
			wantNumber(t, "two coats, from below", two.B[i], two.R[i])
			wantNumber(t, "two coats, through", two.T[i], u/d)
		}
	}
}

func TestP4TwoCoatsAreOneLayerAsThickAsBoth(t *testing.T) {
	r := newRandom(43)
	for range 300 {
		x := randomLayer(r, 1, 2, 1)
		twice := x
		twice.Thick = 2 * x.Thick
		wantNearFilm(t, "two coats", stackOf(t, x, x), filmOf(t, twice), 2e-3)
		parts := [3]impl.Layer{x, x, x}
		share := randomBetween(r, 0, 1)
		parts[0].Thick, parts[1].Thick = x.Thick*share, x.Thick*(1-share)
		wantNearFilm(t, "two coats of any thickness", stackOf(t, parts[0], parts[1]), filmOf(t, x), 2e-3)
		thrice := x
		thrice.Thick = 3 * x.Thick
		wantNearFilm(t, "three coats", stackOf(t, parts[2], parts[2], parts[2]), filmOf(t, thrice), 4e-3)
	}
}

// What layers do is known in hyperbolic functions as well.
func TestP4FilmsOfLayers(t *testing.T) {
	r := newRandom(44)
	for range 300 {
		k, s, thick := randomBetween(r, 0.01, 2), randomBetween(r, 0.1, 2), randomBetween(r, 0, 2)
		a := (float64(s) + float64(k)) / float64(s)
		b := math.Sqrt(a*a - 1)
		far := b * float64(s) * float64(thick)
		below := a*math.Sinh(far) + b*math.Cosh(far)
		back, through := float32(math.Sinh(far)/below), float32(b/below)
		wantNearFilm(t, "FilmOf", filmOf(t, flatLayer(k, s, thick)), flatFilm(back, back, through), 5e-3)
	}
	for _, s := range []float32{0.25, 1, 4, 10} {
		f := filmOf(t, flatLayer(0, s, 1))
		wantNearCurve(t, "what absorbs nothing reflects", f.R, impl.FlatCurve(s/(1+s)), 1e-3)
		wantNearCurve(t, "what absorbs nothing lets through", f.T, impl.FlatCurve(1/(1+s)), 1e-3)
		f = filmOf(t, flatLayer(s, 0, 1))
		wantCurve(t, "what scatters nothing reflects", f.R, impl.Curve{})
		wantNearCurve(t, "what scatters nothing lets through", f.T, impl.FlatCurve(float32(math.Exp(-float64(s)))), 5e-3)
	}
}

func TestP4LayersOfNoThickness(t *testing.T) {
	r := newRandom(45)
	for _, x := range []impl.Layer{flatLayer(1, 1, 0), flatLayer(0, 0, 0), flatLayer(largest, largest, 0), flatLayer(0, 0, 5), flatLayer(0, 0, largest), flatLayer(1, 1, tiniest)} {
		wantFilm(t, "a layer that does nothing", filmOf(t, x), impl.EmptyFilm())
		backing := randomCurve(r, 0, 1)
		seen, code := impl.PaintOver(x, backing)
		wantCode(t, "PaintOver", code, impl.OK)
		wantCurve(t, "a layer that does nothing over a backing", seen, backing)
	}
	turned := flatFilm(minus0, minus0, 1)
	wantFilm(t, "a layer of the thickness -0", filmOf(t, flatLayer(1, 1, minus0)), turned)
	wantFilm(t, "a layer with S -0", filmOf(t, flatLayer(0, minus0, 1)), turned)
	wantFilm(t, "a layer with S -0 and the thickness -0", filmOf(t, flatLayer(minus0, minus0, minus0)), impl.EmptyFilm())
	seen, code := impl.PaintOver(flatLayer(1, 1, minus0), impl.FlatCurve(minus0))
	wantCode(t, "PaintOver -0", code, impl.OK)
	wantCurve(t, "PaintOver -0", seen, impl.FlatCurve(minus0))
}

// A layer over the backing that it would itself be, if it were very thick, is not seen, nearly; and a very thick one hides what is below it.
func TestP4ThickLayers(t *testing.T) {
	r := newRandom(46)
	for range 200 {
		k, s := randomCurve(r, 0.05, 1), randomCurve(r, 0.5, 2)
		thick, code := impl.ThickOf(k, s)
		wantCode(t, "ThickOf", code, impl.OK)
		seen, code := impl.PaintOver(impl.Layer{K: k, S: s, Thick: randomBetween(r, 0, 4)}, thick)
		wantCode(t, "PaintOver", code, impl.OK)
		wantNearCurve(t, "a layer over what it would be", seen, thick, 5e-3)
		x := impl.Layer{K: k, S: s, Thick: 40}
		for _, backing := range []float32{0, 0.5, 1} {
			seen, code = impl.PaintOver(x, impl.FlatCurve(backing))
			wantCode(t, "PaintOver", code, impl.OK)
			wantNearCurve(t, "a very thick layer over any backing", seen, thick, 3e-2)
		}
		contrast, code := impl.ContrastOf(x)
		wantCode(t, "ContrastOf", code, impl.OK)
		wantTrue(t, "a very thick layer has no contrast", contrast < 1e-3)
	}
}
