package tests

import (
	"math"
	"testing"

	"loop.example/g01213/impl"
)

func turnFilm(t *testing.T, f impl.Film) impl.Film {
	t.Helper()
	g, code := impl.TurnFilm(f)
	wantCode(t, "TurnFilm", code, impl.OK)
	return g
}

func TestP5EmptyFilmsAndMirrors(t *testing.T) {
	empty := impl.EmptyFilm()
	wantFilm(t, "EmptyFilm", empty, flatFilm(0, 0, 1))
	wantTrue(t, "EmptyFilm is valid", impl.ValidFilm(empty))
	for share, left := range map[float32]float32{0: 1, minus0: 1, tiniest: 1, 0.25: 0.75, 0.5: 0.5, math.Nextafter32(1, 0): 0x1p-24, 1: 0} {
		f, code := impl.MirrorFilm(share)
		wantCode(t, "MirrorFilm", code, impl.OK)
		wantFilm(t, "MirrorFilm", f, flatFilm(share, share, left))
		wantTrue(t, "MirrorFilm is valid", impl.ValidFilm(f))
		lost, code := impl.LostIn(f)
		wantCode(t, "LostIn a mirror", code, impl.OK)
		wantCurve(t, "LostIn a mirror", lost, impl.Curve{})
	}
	r := newRandom(51)
	for range 200 {
		f := randomFilm(r)
		wantFilm(t, "an empty film above", addFilms(t, empty, f), f)
		wantFilm(t, "an empty film below", addFilms(t, f, empty), f)
	}
	wantFilm(t, "-0 is not kept by a sum", addFilms(t, empty, flatFilm(minus0, minus0, 1)), flatFilm(0, 0, 1))
}

func TestP5FilmsUpsideDown(t *testing.T) {
	r := newRandom(52)
	for range 200 {
		f, g := randomFilm(r), randomFilm(r)
		turned := turnFilm(t, f)
		wantFilm(t, "TurnFilm", turned, impl.Film{R: f.B, B: f.R, T: f.T})
		wantFilm(t, "a film that is turned twice", turnFilm(t, turned), f)
		wantFilm(t, "two films upside down", turnFilm(t, addFilms(t, f, g)), addFilms(t, turnFilm(t, g), turned))
	}
}

// Films are put together in any way.
func TestP5FilmsInAnyWay(t *testing.T) {
	r := newRandom(53)
	for range 300 {
		f, g, h := randomFilm(r), randomFilm(r), randomFilm(r)
		wantNearFilm(t, "three films", addFilms(t, addFilms(t, f, g), h), addFilms(t, f, addFilms(t, g, h)), 2e-5)
		backing := randomCurve(r, 0, 1)
		wantNearCurve(t, "two films over a backing", overBacking(t, addFilms(t, f, g), backing), overBacking(t, f, overBacking(t, g, backing)), 2e-5)
	}
}

func TestP5StacksInAnyWay(t *testing.T) {
	wantFilm(t, "a stack of no layers", stackOf(t), impl.EmptyFilm())
	wantFilm(t, "a stack of no layers", stackOf(t, []impl.Layer{}...), impl.EmptyFilm())
	r := newRandom(54)
	for range 60 {
		list := make([]impl.Layer, impl.MaxLayers)
		films := impl.EmptyFilm()
		for i := range list {
			list[i] = randomLayer(r, 0.5, 2, 0.5)
			films = addFilms(t, films, filmOf(t, list[i]))
			wantFilm(t, "a stack is its films, one below the other", stackOf(t, list[:i+1]...), films)
		}
		wantFilm(t, "a stack of one layer", stackOf(t, list[0]), filmOf(t, list[0]))
		cut := r.IntN(len(list) + 1)
		wantNearFilm(t, "two stacks", addFilms(t, stackOf(t, list[:cut]...), stackOf(t, list[cut:]...)), films, 2e-5)
		var back []impl.Layer
		for i := range list {
			back = append(back, list[len(list)-1-i])
		}
		wantNearFilm(t, "a stack upside down", turnFilm(t, stackOf(t, back...)), films, 2e-5)
	}
	f, code := impl.StackOf(make([]impl.Layer, impl.MaxLayers+1))
	wantNoFilm(t, "one layer more", f, code, impl.ErrLimit)
}

// A stack takes films of layers, and what it has put together, also if they are not valid by their roundings.
func TestP5StacksOfFilmsThatAreNotValid(t *testing.T) {
	paint := flatLayer(1, 1, 0.25)
	for _, x := range []impl.Layer{mirrorLayer, wornLayer} {
		f := filmOf(t, x)
		wantTrue(t, "a film that is not valid", !impl.ValidFilm(f))
		wantFilm(t, "below", stackOf(t, paint, x), oracleAdded(filmOf(t, paint), f))
		wantFilm(t, "above", stackOf(t, x, paint), oracleAdded(oracleAdded(impl.EmptyFilm(), f), filmOf(t, paint)))
		wantFilm(t, "between", stackOf(t, paint, x, paint), oracleAdded(oracleAdded(filmOf(t, paint), f), filmOf(t, paint)))
		for _, b := range []float32{0, 0.5, 0.999} {
			seen, code := impl.PaintOver(x, impl.FlatCurve(b))
			wantCode(t, "PaintOver", code, impl.OK)
			wantCurve(t, "PaintOver", seen, oracleOver(f, impl.FlatCurve(b)))
		}
	}
	wantTrue(t, "more than all is reflected by the layer alone", filmOf(t, mirrorLayer).R[0] > 1)
	wantFilm(t, "what is greater than 1 becomes 1", stackOf(t, mirrorLayer), impl.Film{R: impl.FlatCurve(1), B: impl.FlatCurve(1), T: filmOf(t, mirrorLayer).T})
	seen, code := impl.PaintOver(mirrorLayer, impl.Curve{})
	wantCode(t, "PaintOver black", code, impl.OK)
	wantCurve(t, "PaintOver black", seen, impl.FlatCurve(1))
	negative := stackOf(t, wornLayer)
	wantTrue(t, "what is less than 0 stays", negative.T[0] < 0 && !impl.ValidFilm(negative))
	contrast, code := impl.ContrastOf(wornLayer)
	wantCode(t, "ContrastOf", code, impl.OK)
	wantNumber(t, "ContrastOf", contrast, oracleContrast(wornLayer))
}

// Between layers that reflect all but 2 to the power -24, what goes through grows by each layer, until its square is infinite.
func TestP5StacksThatAreNotFinite(t *testing.T) {
	list := []impl.Layer{flatLayer(0, math.Float32frombits(0x3f7fa5ef), 1024)}
	wantTrue(t, "less than nothing goes through the first layer", filmOf(t, list[0]).T[0] < 0)
	want := oracleAdded(impl.EmptyFilm(), filmOf(t, list[0]))
	for range 10 {
		x := flatLayer(0, math.Float32frombits(0x3f7ae342), 1024)
		list = append(list, x)
		want = oracleAdded(want, filmOf(t, x))
	}
	f := stackOf(t, list...)
	wantFilm(t, "a stack that is finite", f, want)
	wantTrue(t, "a square that is infinite", f.T[0] < -1e20)
	f = stackOf(t, append(list, flatLayer(1, 1, 1))...)
	wantCurve(t, "what is infinite becomes 1", f.R, impl.FlatCurve(1))
	f, code := impl.StackOf(append(list, flatLayer(1, 0, 1)))
	wantNoFilm(t, "infinite times 0", f, code, impl.ErrState)
}

func TestP5WhatBecomesOne(t *testing.T) {
	glass := flatFilm(0.5, 0.5, 0.501)
	both := addFilms(t, glass, flatFilm(1, 1, 0))
	wantFilm(t, "above a mirror", both, flatFilm(1, 1, 0))
	wantFilm(t, "below a mirror", addFilms(t, flatFilm(1, 1, 0), glass), flatFilm(1, 1, 0))
	clear := flatFilm(0.001, 0.001, 1)
	wantNumber(t, "what goes through two clear films", addFilms(t, clear, clear).T[9], 1)
	wantNumber(t, "what two clear films reflect", addFilms(t, clear, clear).R[9], oracleAdded(clear, clear).R[0])
	wantCurve(t, "a film over white", overBacking(t, glass, impl.FlatCurve(1)), impl.FlatCurve(1))
	lost, code := impl.LostIn(glass)
	wantCode(t, "LostIn", code, impl.OK)
	wantCurve(t, "less than nothing is lost", lost, impl.Curve{})
}

func TestP5WhatIsLost(t *testing.T) {
	f := flatFilm(0.25, 0.5, 0.5)
	f.R[3], f.T[3] = 0, 0
	f.R[4], f.T[4] = 1, 0
	f.R[5], f.T[5] = 0.5, 0.25
	f.R[6], f.T[6] = minus0, minus0
	lost, code := impl.LostIn(f)
	wantCode(t, "LostIn", code, impl.OK)
	wantCurve(t, "LostIn", lost, impl.Curve{0.25, 0.25, 0.25, 1, 0, 0.25, 1, 0.25, 0.25, 0.25, 0.25, 0.25, 0.25, 0.25, 0.25, 0.25})
	// From left to right: what is left of R is 2 to the power -24, and of this T; R and T first would be 1.
	f = flatFilm(math.Nextafter32(1, 0), 0, 0x1p-26)
	lost, code = impl.LostIn(f)
	wantCode(t, "LostIn", code, impl.OK)
	wantCurve(t, "LostIn, from left to right", lost, impl.FlatCurve(0x1p-24-0x1p-26))
}

// Backings of 0, -0 and 1.
func TestP5Backings(t *testing.T) {
	r := newRandom(55)
	for range 200 {
		f, backing := randomFilm(r), randomCurve(r, 0, 1)
		wantCurve(t, "over black", overBacking(t, f, impl.Curve{}), f.R)
		wantCurve(t, "over -0", overBacking(t, f, impl.FlatCurve(minus0)), f.R)
		wantCurve(t, "an empty film over a backing", overBacking(t, impl.EmptyFilm(), backing), backing)
		white := overBacking(t, f, impl.FlatCurve(1))
		wantCurve(t, "over white", white, oracleOver(f, impl.FlatCurve(1)))
		wantCurve(t, "a mirror below is white", addFilms(t, f, flatFilm(1, 1, 0)).R, white)
		seen := overBacking(t, f, backing)
		for i := range seen {
			wantTrue(t, "a backing between is seen between", f.R[i] <= seen[i] && seen[i] <= white[i])
		}
	}
	mirror := flatFilm(1, 1, 0)
	wantCurve(t, "a mirror over a grey", overBacking(t, mirror, impl.FlatCurve(math.Nextafter32(1, 0))), impl.FlatCurve(1))
	wantCurve(t, "from below nothing is reflected", overBacking(t, impl.Film{B: impl.FlatCurve(1)}, impl.FlatCurve(0.5)), impl.Curve{})
	wantCurve(t, "-0 stays", overBacking(t, flatFilm(minus0, minus0, 1), impl.FlatCurve(minus0)), impl.FlatCurve(minus0))
}

func TestP5Contrasts(t *testing.T) {
	contrast, code := impl.ContrastOf(flatLayer(1, 1, 0))
	wantCode(t, "ContrastOf", code, impl.OK)
	wantNumber(t, "the contrast of no layer", contrast, 1)
	r := newRandom(56)
	for range 200 {
		x := randomLayer(r, 2, 2, 3)
		contrast, code := impl.ContrastOf(x)
		wantCode(t, "ContrastOf", code, impl.OK)
		white, _ := impl.PaintOver(x, impl.FlatCurve(1))
		black, _ := impl.PaintOver(x, impl.Curve{})
		most := white[0] - black[0]
		for i := range white {
			most = max(most, white[i]-black[i])
		}
		wantNumber(t, "ContrastOf", contrast, most)
	}
}

// The thickness that is found hides enough, and none below it does.
func TestP5Thicknesses(t *testing.T) {
	r := newRandom(57)
	for range 150 {
		k, s := randomCurve(r, 0.2, 2), randomCurve(r, 0.2, 2)
		contrast := randomBetween(r, 0.01, 1)
		thick, code := impl.ThicknessFor(k, s, contrast)
		wantCode(t, "ThicknessFor", code, impl.OK)
		steps := thick * 8
		wantTrue(t, "a thickness is a number of eighths", steps >= 1 && steps <= 256 && steps == float32(math.Trunc(float64(steps))))
		for step := float32(1); step < steps; step++ {
			left, code := impl.ContrastOf(impl.Layer{K: k, S: s, Thick: step / 8})
			wantCode(t, "ContrastOf", code, impl.OK)
			wantTrue(t, "a thinner layer hides less", left > contrast)
		}
		left, code := impl.ContrastOf(impl.Layer{K: k, S: s, Thick: thick})
		wantCode(t, "ContrastOf", code, impl.OK)
		wantTrue(t, "the thickness that is found hides enough", left <= contrast)
	}
}

// The first thickness is 1/8 and the last one 32, and a contrast may be reached exactly.
func TestP5FirstAndLastThickness(t *testing.T) {
	k, s := impl.FlatCurve(0.02), impl.FlatCurve(0.03)
	for _, step := range []float32{1, 2, 3, 100, 255, 256} {
		x := impl.Layer{K: k, S: s, Thick: step / 8}
		contrast, code := impl.ContrastOf(x)
		wantCode(t, "ContrastOf", code, impl.OK)
		thick, code := impl.ThicknessFor(k, s, contrast)
		wantCode(t, "ThicknessFor", code, impl.OK)
		wantNumber(t, "ThicknessFor a contrast that is reached exactly", thick, step/8)
		thick, code = impl.ThicknessFor(k, s, math.Nextafter32(contrast, 0))
		if step == 256 {
			wantNoNumber(t, "ThicknessFor less than the last contrast", thick, code, impl.ErrNotFound)
			continue
		}
		wantCode(t, "ThicknessFor a little less", code, impl.OK)
		wantNumber(t, "ThicknessFor a little less", thick, (step+1)/8)
	}
	thick, code := impl.ThicknessFor(k, s, 1)
	wantCode(t, "ThicknessFor 1", code, impl.OK)
	wantNumber(t, "ThicknessFor 1", thick, 0.125)
	for _, none := range []float32{0, minus0} {
		thick, code = impl.ThicknessFor(k, s, none)
		wantNoNumber(t, "ThicknessFor no contrast", thick, code, impl.ErrNotFound)
		thick, code = impl.ThicknessFor(impl.FlatCurve(50), impl.FlatCurve(1), none)
		wantCode(t, "ThicknessFor no contrast of a dark layer", code, impl.OK)
		wantNumber(t, "ThicknessFor no contrast of a dark layer", thick, 0.25)
	}
}

func TestP5FilmsFromTwo(t *testing.T) {
	r := newRandom(58)
	for range 300 {
		f := impl.Film{R: randomCurve(r, 0, 0.6), T: randomCurve(r, 0.1, 0.4)}
		f.B = f.R
		backing := randomCurve(r, 0.3, 1)
		g, code := impl.FilmFromTwo(overBacking(t, f, impl.Curve{}), overBacking(t, f, backing), backing)
		wantCode(t, "FilmFromTwo", code, impl.OK)
		wantCurve(t, "FilmFromTwo, from above", g.R, f.R)
		wantCurve(t, "FilmFromTwo, from below", g.B, f.R)
		wantNearCurve(t, "FilmFromTwo, through", g.T, f.T, 1e-5)
	}
}

func TestP5FilmsFromTwoAtTheEnds(t *testing.T) {
	white := impl.FlatCurve(1)
	cases := []struct{ black, bright, b, through float32 }{
		{0, 0, 1, 0}, {0.5, 0.5, 1, 0}, {0.75, 0.5, 1, 0}, {1, 1, 1, 0}, {1, 0, 1, 0}, {0, minus0, 1, 0}, {minus0, 0, 1, 0}, {1, 0.5, tiniest, 0},
		{0, 1, 1, 1}, {0, 0.25, 1, 0.5}, {0, 0.5, 0.5, 1}, {0.5, 0.75, 1, oracleThrough(0.5, 0.75, 1)}, {minus0, 0.25, 1, 0.5},
		{0, tiniest, tiniest, 1}, {0, tiniest, 1, rootOf(tiniest)},
	}
	for _, x := range cases {
		for _, i := range []int{0, 7, 15} {
			f, code := impl.FilmFromTwo(flatBut(0, i, x.black), flatBut(1, i, x.bright), flatBut(1, i, x.b))
			wantCode(t, "FilmFromTwo", code, impl.OK)
			black := flatBut(0, i, x.black)
			wantFilm(t, "FilmFromTwo", f, impl.Film{R: black, B: black, T: flatBut(1, i, x.through)})
		}
	}
	// A film at the bound 1.001, and one behind it.
	at := func(black float32) (impl.Film, int64) {
		return impl.FilmFromTwo(impl.FlatCurve(black), white, impl.FlatCurve(0.9985))
	}
	inside, outside := 0, 0
	for black := float32(0); black < 0.01; black += 1e-5 {
		f, code := at(black)
		through := oracleThrough(black, 1, 0.9985)
		if through <= 1 && black+through <= 1.001 {
			wantCode(t, "FilmFromTwo at the bound", code, impl.OK)
			wantFilm(t, "FilmFromTwo at the bound", f, flatFilm(black, black, through))
			inside++
		} else {
			wantNoFilm(t, "FilmFromTwo behind the bound", f, code, impl.ErrState)
			outside++
		}
	}
	wantTrue(t, "both are tried", inside > 0 && outside > 0)
}
