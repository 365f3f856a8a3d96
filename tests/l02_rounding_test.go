package tests

import (
	"testing"

	"loop.example/g01213/impl"
)

// P1, 'Numbers and roundings': each step of chapter 2 is narrow and rounded once, in the order that is told.

func TestP1RoundingOfRatios(t *testing.T) {
	r := newRandom(21)
	for range 500 {
		k, s := randomCurve(r, 0, 5), randomCurve(r, 0.01, 5)
		share := randomCurve(r, 0.001, 1)
		var ratios, reflected, thick, back impl.Curve
		for i := range k {
			ratios[i] = over(k[i], s[i])
			reflected[i] = oracleReflected(k[i])
			thick[i] = oracleReflected(ratios[i])
			back[i] = oracleRatio(share[i])
		}
		got, code := impl.RatioCurve(k, s)
		wantCode(t, "RatioCurve", code, impl.OK)
		wantCurve(t, "RatioCurve", got, ratios)
		got, code = impl.OfRatio(k)
		wantCode(t, "OfRatio", code, impl.OK)
		wantCurve(t, "OfRatio", got, reflected)
		got, code = impl.ThickOf(k, s)
		wantCode(t, "ThickOf", code, impl.OK)
		wantCurve(t, "ThickOf", got, thick)
		got, code = impl.RatioOf(share)
		wantCode(t, "RatioOf", code, impl.OK)
		wantCurve(t, "RatioOf", got, back)
	}
}

func TestP1RoundingOfFilms(t *testing.T) {
	r := newRandom(22)
	for range 300 {
		x := randomLayer(r, 9, 9, 9)
		wantFilm(t, "FilmOf", filmOf(t, x), oracleFilm(x))
		f, g, backing := randomFilm(r), randomFilm(r), randomCurve(r, 0, 1)
		wantFilm(t, "AddFilms", addFilms(t, f, g), oracleAdded(f, g))
		wantCurve(t, "OverBacking", overBacking(t, f, backing), oracleOver(f, backing))
		painted, code := impl.PaintOver(x, backing)
		wantCode(t, "PaintOver", code, impl.OK)
		wantCurve(t, "PaintOver", painted, oracleOver(oracleFilm(x), backing))
		contrast, code := impl.ContrastOf(x)
		wantCode(t, "ContrastOf", code, impl.OK)
		wantNumber(t, "ContrastOf", contrast, oracleContrast(x))
		lost, code := impl.LostIn(f)
		wantCode(t, "LostIn", code, impl.OK)
		wantCurve(t, "LostIn", lost, oracleLost(f))
	}
}

func TestP1RoundingOfStacks(t *testing.T) {
	r := newRandom(23)
	for range 100 {
		list := make([]impl.Layer, r.IntN(impl.MaxLayers+1))
		want := impl.EmptyFilm()
		for i := range list {
			list[i] = randomLayer(r, 1, 3, 1)
			want = oracleAdded(want, oracleFilm(list[i]))
		}
		wantFilm(t, "StackOf", stackOf(t, list...), want)
	}
}

func TestP1RoundingOfFilmsFromTwo(t *testing.T) {
	r := newRandom(24)
	for range 300 {
		var black, bright, backing, through impl.Curve
		for i := range black {
			black[i], backing[i] = randomBetween(r, 0, 0.5), randomBetween(r, 0.5, 1)
			bright[i] = black[i] + randomBetween(r, 0.001, 0.05)
			through[i] = oracleThrough(black[i], bright[i], backing[i])
		}
		f, code := impl.FilmFromTwo(black, bright, backing)
		wantCode(t, "FilmFromTwo", code, impl.OK)
		wantFilm(t, "FilmFromTwo", f, impl.Film{R: black, B: black, T: through})
	}
}

// In these layers, thin ones scatter nearly all: roundings are then as great as what is left, and show each other order of steps.
func TestP1RoundingOfStrongLayers(t *testing.T) {
	r := newRandom(25)
	for range 300 {
		x := impl.Layer{K: randomCurve(r, 0, 1e-4), S: randomCurve(r, 0.9, 0.99), Thick: 1024}
		wantFilm(t, "FilmOf a strong layer", filmOf(t, x), oracleFilm(x))
	}
	for _, x := range []impl.Layer{mirrorLayer, wornLayer} {
		f := filmOf(t, x)
		wantFilm(t, "a film that is not valid by its roundings", f, oracleFilm(x))
		wantTrue(t, "a film that is not valid by its roundings", !impl.ValidFilm(f))
	}
	wantTrue(t, "more than all is reflected", filmOf(t, mirrorLayer).R[0] > 1)
	wantTrue(t, "less than nothing goes through", filmOf(t, wornLayer).T[0] < 0)
}
