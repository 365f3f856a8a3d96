package tests

import (
	"math"
	"testing"

	"loop.example/g01213/impl"
)

// notAmounts are no numbers of K, S, a ratio or a thickness.
func notAmounts() []float32 {
	return []float32{nan, math.Float32frombits(0xff800001), infinite, -infinite, -tiniest, -1, -largest}
}

// notShares are no numbers of a share.
func notShares() []float32 {
	return append(notAmounts(), math.Nextafter32(1, 2), 2, largest)
}

// wantNoFilm asks for a code, and that the film beside it is zero.
func wantNoFilm(t *testing.T, name string, f impl.Film, code, want int64) {
	t.Helper()
	wantCode(t, name, code, want)
	wantFilm(t, name+" beside an error", f, impl.Film{})
}

func wantNoCurve(t *testing.T, name string, c impl.Curve, code, want int64) {
	t.Helper()
	wantCode(t, name, code, want)
	wantCurve(t, name+" beside an error", c, impl.Curve{})
}

func wantNoNumber(t *testing.T, name string, a float32, code, want int64) {
	t.Helper()
	wantCode(t, name, code, want)
	wantNumber(t, name+" beside an error", a, 0)
}

func TestP1Limits(t *testing.T) {
	if impl.MaxLayers != 12 || impl.MaxDoubling != 10 {
		t.Error("the limits of chapter 2 are others")
	}
}

func TestP1ValidLayers(t *testing.T) {
	for _, x := range []impl.Layer{{}, flatLayer(minus0, minus0, minus0), flatLayer(largest, largest, largest), flatLayer(tiniest, 1, 0), stuckLayer, strongLayer} {
		wantTrue(t, "a layer of numbers that are finite and at least 0 is valid", impl.ValidLayer(x))
		y, code := impl.LayerOf(x.K, x.S, x.Thick)
		wantCode(t, "LayerOf", code, impl.OK)
		wantTrue(t, "LayerOf", sameCurve(y.K, x.K) && sameCurve(y.S, x.S) && same(y.Thick, x.Thick))
	}
	for _, x := range notLayers() {
		wantTrue(t, "a layer of other numbers is not valid", !impl.ValidLayer(x))
		y, code := impl.LayerOf(x.K, x.S, x.Thick)
		wantCode(t, "LayerOf", code, impl.ErrInvalid)
		wantTrue(t, "LayerOf beside an error", y == impl.Layer{})
		f, code := impl.FilmOf(x)
		wantNoFilm(t, "FilmOf", f, code, impl.ErrInvalid)
		c, code := impl.PaintOver(x, impl.FlatCurve(2))
		wantNoCurve(t, "PaintOver", c, code, impl.ErrInvalid)
		a, code := impl.ContrastOf(x)
		wantNoNumber(t, "ContrastOf", a, code, impl.ErrInvalid)
		f, code = impl.StackOf([]impl.Layer{strongLayer, x})
		wantNoFilm(t, "StackOf", f, code, impl.ErrInvalid)
		if text := impl.LayerText(x); text != "" {
			t.Errorf("LayerText of a layer that is not valid: got %q", text)
		}
		if x.Thick == 1 {
			a, code = impl.ThicknessFor(x.K, x.S, nan)
			wantNoNumber(t, "ThicknessFor", a, code, impl.ErrInvalid)
		}
	}
}

// notLayers have one number that makes them not valid; the other ones are so strong that other errors would follow.
func notLayers() []impl.Layer {
	var list []impl.Layer
	for i := range 16 {
		for _, a := range notAmounts() {
			k, s, thick := flatLayer(1, largest, 1), flatLayer(1, largest, 1), flatLayer(1, largest, a)
			k.K[i], s.S[i] = a, a
			list = append(list, k, s, thick)
		}
	}
	return list
}

func TestP1SameLayers(t *testing.T) {
	r := newRandom(31)
	for range 100 {
		x := impl.Layer{K: anyCurve(r), S: anyCurve(r), Thick: anyCurve(r)[0]}
		wantTrue(t, "a layer is the same as itself", impl.SameLayer(x, x))
		for i := range 16 {
			k, s := x, x
			k.K[i], s.S[i] = otherNumber(x.K[i]), otherNumber(x.S[i])
			wantTrue(t, "another number of K", !impl.SameLayer(x, k) && !impl.SameLayer(k, x))
			wantTrue(t, "another number of S", !impl.SameLayer(x, s) && !impl.SameLayer(s, x))
		}
		y := x
		y.Thick = otherNumber(x.Thick)
		wantTrue(t, "another thickness", !impl.SameLayer(x, y))
	}
	wantTrue(t, "0 and -0 in layers", !impl.SameLayer(impl.Layer{}, impl.Layer{Thick: minus0}))
	wantTrue(t, "NaN in layers", impl.SameLayer(flatLayer(nan, nan, nan), flatLayer(-nan, math.Float32frombits(0x7f800001), math.Float32frombits(0xffffffff))))
}

// otherNumber is one that is not the same; 0 becomes -0.
func otherNumber(a float32) float32 {
	if a != a {
		return 0
	}
	return -a
}

func TestP1SameFilms(t *testing.T) {
	r := newRandom(32)
	for range 100 {
		f := impl.Film{R: anyCurve(r), B: anyCurve(r), T: anyCurve(r)}
		wantTrue(t, "a film is the same as itself", impl.SameFilm(f, f))
		for i := range 16 {
			above, below, through := f, f, f
			above.R[i], below.B[i], through.T[i] = otherNumber(f.R[i]), otherNumber(f.B[i]), otherNumber(f.T[i])
			wantTrue(t, "another number of R", !impl.SameFilm(f, above) && !impl.SameFilm(above, f))
			wantTrue(t, "another number of B", !impl.SameFilm(f, below) && !impl.SameFilm(below, f))
			wantTrue(t, "another number of T", !impl.SameFilm(f, through) && !impl.SameFilm(through, f))
		}
	}
	wantTrue(t, "0 and -0 in films", !impl.SameFilm(impl.Film{}, impl.Film{T: impl.FlatCurve(minus0)}))
	wantTrue(t, "NaN in films", impl.SameFilm(flatFilm(nan, nan, nan), flatFilm(-nan, math.Float32frombits(0x7f800001), math.Float32frombits(0xffffffff))))
}

// The sums of R and T, and of B and T, are narrow, and so is the bound 1.001.
func TestP1ValidFilms(t *testing.T) {
	const bound = float32(1.001)
	up := func(a float32) float32 { return math.Nextafter32(a, 2) }
	little := bound - 1
	cases := []struct {
		name    string
		r, b, t float32
		valid   bool
	}{
		{"nothing at all", 0, 0, 0, true}, {"-0", minus0, minus0, minus0, true},
		{"all reflected", 1, 1, 0, true}, {"all let through", 0, 0, 1, true}, {"half and half", 0.5, 0.5, 0.5, true},
		{"at the bound", 0.5, 0.5, bound - 0.5, true}, {"at the bound, let through", little, little, 1, true}, {"at the bound, reflected", 1, 1, little, true},
		{"at the bound by rounding", up(little), little, 1, true}, {"at the bound by rounding, below", little, up(little), 1, true},
		{"above the bound", 0.5, 0, up(bound - 0.5), false}, {"above the bound, below", 0, 0.5, up(bound - 0.5), false},
		{"far above the bound", 1, 0, 1, false}, {"far above the bound, below", 0, 1, 1, false}, {"a little above the bound", 0.0011, 0, 1, false},
	}
	for _, x := range cases {
		if got := impl.ValidFilm(flatFilm(x.r, x.b, x.t)); got != x.valid {
			t.Errorf("ValidFilm of %s: got %v", x.name, got)
		}
		for i := range 16 {
			f := impl.Film{R: flatBut(0.25, i, x.r), B: flatBut(0.5, i, x.b), T: flatBut(0.25, i, x.t)}
			if got := impl.ValidFilm(f); got != x.valid {
				t.Errorf("ValidFilm of %s at the wavelength %d: got %v", x.name, i, got)
			}
		}
	}
}

// notFilms have one number that makes them not valid.
func notFilms() []impl.Film {
	list := []impl.Film{flatFilm(0.6, 0.2, 0.5), flatFilm(0.2, 0.6, 0.5)}
	for i := range 16 {
		for _, a := range notShares() {
			above, below, through := flatFilm(1, 1, 0), flatFilm(1, 1, 0), flatFilm(0, 0, 0)
			above.R[i], below.B[i], through.T[i] = a, a, a
			list = append(list, above, below, through)
		}
	}
	return list
}

func TestP1FilmsThatAreNotValid(t *testing.T) {
	mirror := flatFilm(1, 1, 0)
	for _, bad := range notFilms() {
		wantTrue(t, "a film with such a number is not valid", !impl.ValidFilm(bad))
		f, code := impl.AddFilms(bad, mirror)
		wantNoFilm(t, "AddFilms", f, code, impl.ErrInvalid)
		f, code = impl.AddFilms(mirror, bad)
		wantNoFilm(t, "AddFilms", f, code, impl.ErrInvalid)
		f, code = impl.TurnFilm(bad)
		wantNoFilm(t, "TurnFilm", f, code, impl.ErrInvalid)
		c, code := impl.OverBacking(bad, impl.FlatCurve(nan))
		wantNoCurve(t, "OverBacking", c, code, impl.ErrInvalid)
		c, code = impl.LostIn(bad)
		wantNoCurve(t, "LostIn", c, code, impl.ErrInvalid)
	}
}

func TestP1ErrorsOfRatios(t *testing.T) {
	for i := range 16 {
		other := (i + 5) % 16
		for _, a := range notAmounts() {
			k, s := flatBut(1, i, a), flatBut(1, other, 0) // s is 0 where k is not, which comes later
			c, code := impl.RatioCurve(k, s)
			wantNoCurve(t, "RatioCurve", c, code, impl.ErrRange)
			c, code = impl.RatioCurve(flatBut(1, i, 1), flatBut(0, i, a))
			wantNoCurve(t, "RatioCurve", c, code, impl.ErrRange)
			c, code = impl.ThickOf(k, flatBut(1, i, 0))
			wantNoCurve(t, "ThickOf, with S 0 there", c, code, impl.ErrRange)
			c, code = impl.ThickOf(flatBut(1, other, largest), flatBut(tiniest, i, a))
			wantNoCurve(t, "ThickOf", c, code, impl.ErrRange)
			c, code = impl.ThickOf(flatBut(1, i, 0), flatBut(tiniest, i, a))
			wantNoCurve(t, "ThickOf, with K 0 there", c, code, impl.ErrRange)
			c, code = impl.OfRatio(flatBut(1, i, a))
			wantNoCurve(t, "OfRatio", c, code, impl.ErrRange)
		}
		for _, a := range append(notShares(), 0, minus0) {
			c, code := impl.RatioOf(flatBut(tiniest, i, a)) // the ratio of tiniest is not finite, which comes later
			wantNoCurve(t, "RatioOf", c, code, impl.ErrRange)
		}
		for _, none := range []float32{0, minus0} {
			c, code := impl.RatioCurve(impl.FlatCurve(1), flatBut(1, i, none))
			wantNoCurve(t, "RatioCurve, S is 0", c, code, impl.ErrState)
		}
		c, code := impl.RatioCurve(flatBut(1, i, tiniest), flatBut(1, i, 0))
		wantNoCurve(t, "RatioCurve, S is 0 and K small", c, code, impl.ErrState)
		c, code = impl.RatioCurve(flatBut(1, i, largest), flatBut(1, i, 0.5))
		wantNoCurve(t, "RatioCurve, too great", c, code, impl.ErrState)
		c, code = impl.ThickOf(flatBut(1, i, largest), flatBut(1, i, 0.5))
		wantNoCurve(t, "ThickOf, too great a ratio", c, code, impl.ErrState)
		c, code = impl.RatioOf(flatBut(1, i, tiniest))
		wantNoCurve(t, "RatioOf, too great", c, code, impl.ErrState)
		c, code = impl.RatioOf(flatBut(1, i, 0x1p-129))
		wantNoCurve(t, "RatioOf, a little too great", c, code, impl.ErrState)
	}
}

func TestP1ErrorsOfLayers(t *testing.T) {
	stuckThenStrong, strongThenStuck := stuckLayer, stuckLayer
	stuckThenStrong.S[15], strongThenStuck.S[0] = strongLayer.S[0], strongLayer.S[0]
	cases := []struct {
		name string
		x    impl.Layer
		want int64
	}{
		{"too strong by S", strongLayer, impl.ErrLimit},
		{"too strong by K", flatLayer(1.0000001, 0, 1024), impl.ErrLimit},
		{"too strong by both", flatLayer(0.5, 0.50000006, 1024), impl.ErrLimit},
		{"too strong by numbers that become infinite", flatLayer(largest, 0, largest), impl.ErrLimit},
		{"too strong by S that becomes infinite", flatLayer(0, largest, largest), impl.ErrLimit},
		{"too strong by its thickness", flatLayer(0, 1, math.Nextafter32(1024, 2048)), impl.ErrLimit},
		{"not finite", stuckLayer, impl.ErrState},
		{"not finite at first, too strong at last", stuckThenStrong, impl.ErrLimit},
		{"too strong at first, then not finite", strongThenStuck, impl.ErrLimit},
		{"not finite at one wavelength", impl.Layer{S: flatBut(0.5, 9, 1), Thick: 1024}, impl.ErrState},
		{"too strong at one wavelength", impl.Layer{K: flatBut(0.5, 11, 2), Thick: 1024}, impl.ErrLimit},
	}
	for _, x := range cases {
		f, code := impl.FilmOf(x.x)
		wantNoFilm(t, "FilmOf "+x.name, f, code, x.want)
		for _, backing := range []float32{0, 1, 2, nan} {
			c, code := impl.PaintOver(x.x, impl.FlatCurve(backing))
			wantNoCurve(t, "PaintOver "+x.name, c, code, x.want)
		}
		a, code := impl.ContrastOf(x.x)
		wantNoNumber(t, "ContrastOf "+x.name, a, code, x.want)
		f, code = impl.StackOf([]impl.Layer{{}, x.x})
		wantNoFilm(t, "StackOf "+x.name, f, code, x.want)
	}
	for _, x := range []impl.Layer{flatLayer(1, 0, 1024), flatLayer(0.5, 0.5, 1024), flatLayer(0, math.Nextafter32(1, 0), 1024)} {
		f, code := impl.FilmOf(x)
		if x.S[0] < 0.9 {
			wantCode(t, "FilmOf at the edge", code, impl.OK)
			wantCurve(t, "nothing goes through at the edge", f.T, impl.Curve{})
			wantCurve(t, "what is reflected at the edge", f.R, x.S)
		} else {
			wantTrue(t, "a layer at the edge is not too strong", code != impl.ErrLimit)
		}
	}
}

func TestP1ErrorsOfStacks(t *testing.T) {
	full := func(list ...impl.Layer) []impl.Layer {
		return append(make([]impl.Layer, impl.MaxLayers+1-len(list)), list...)
	}
	cases := []struct {
		name string
		list []impl.Layer
		want int64
	}{
		{"one more than MaxLayers", full(), impl.ErrLimit},
		{"many layers", make([]impl.Layer, 5000), impl.ErrLimit},
		{"one more than MaxLayers, not finite", append([]impl.Layer{stuckLayer}, full()...), impl.ErrLimit},
		{"one more than MaxLayers, the last one not valid", full(flatLayer(1, nan, 1)), impl.ErrInvalid},
		{"the last one not valid", []impl.Layer{strongLayer, stuckLayer, flatLayer(-1, 1, 1)}, impl.ErrInvalid},
		{"not finite, then too strong", []impl.Layer{stuckLayer, strongLayer}, impl.ErrState},
		{"too strong, then not finite", []impl.Layer{strongLayer, stuckLayer}, impl.ErrLimit},
		{"two mirrors", []impl.Layer{mirrorLayer, mirrorLayer}, impl.ErrState},
		{"two mirrors, then too strong", []impl.Layer{mirrorLayer, mirrorLayer, strongLayer}, impl.ErrState},
		{"two mirrors, the second one too strong", []impl.Layer{mirrorLayer, strongLayer, mirrorLayer}, impl.ErrLimit},
	}
	for _, x := range cases {
		f, code := impl.StackOf(x.list)
		wantNoFilm(t, "StackOf "+x.name, f, code, x.want)
	}
	list := make([]impl.Layer, 100000)
	list[len(list)-1].Thick = infinite
	f, code := impl.StackOf(list)
	wantNoFilm(t, "StackOf very many layers", f, code, impl.ErrInvalid)
}

func TestP1ErrorsOfFilms(t *testing.T) {
	for _, a := range notShares() {
		f, code := impl.MirrorFilm(a)
		wantNoFilm(t, "MirrorFilm", f, code, impl.ErrRange)
	}
	mirror := flatFilm(1, 1, 0)
	f, code := impl.AddFilms(mirror, mirror)
	wantNoFilm(t, "AddFilms of mirrors", f, code, impl.ErrState)
	// A quotient by 0 would be infinite here, and so become 1.
	leaky := flatFilm(1, 1, 0.001)
	f, code = impl.AddFilms(leaky, leaky)
	wantNoFilm(t, "AddFilms of mirrors that let a little through", f, code, impl.ErrState)
	seen, code := impl.OverBacking(leaky, impl.FlatCurve(1))
	wantNoCurve(t, "OverBacking of such a mirror", seen, code, impl.ErrState)
	for i := range 16 {
		f, code = impl.AddFilms(impl.Film{B: flatBut(0, i, 1)}, impl.Film{R: flatBut(0, i, 1)})
		wantNoFilm(t, "AddFilms with a mirror at one wavelength", f, code, impl.ErrState)
		c, code := impl.OverBacking(impl.Film{B: flatBut(0, i, 1)}, impl.FlatCurve(1))
		wantNoCurve(t, "OverBacking, nothing to divide by", c, code, impl.ErrState)
		for _, a := range notShares() {
			c, code = impl.OverBacking(mirror, flatBut(1, i, a))
			wantNoCurve(t, "OverBacking what is no share", c, code, impl.ErrRange)
			c, code = impl.PaintOver(mirrorLayer, flatBut(1, i, a))
			wantNoCurve(t, "PaintOver what is no share", c, code, impl.ErrRange)
		}
	}
	c, code := impl.PaintOver(mirrorLayer, impl.FlatCurve(1))
	wantNoCurve(t, "PaintOver a layer that reflects all", c, code, impl.ErrState)
	a, code := impl.ContrastOf(mirrorLayer)
	wantNoNumber(t, "ContrastOf a layer that reflects all", a, code, impl.ErrState)
}

func TestP1ErrorsOfFilmsFromTwo(t *testing.T) {
	half, bright, white := impl.FlatCurve(0.5), impl.FlatCurve(0.75), impl.FlatCurve(1)
	for i := range 16 {
		for _, a := range notShares() {
			f, code := impl.FilmFromTwo(flatBut(0.5, i, a), white, white)
			wantNoFilm(t, "FilmFromTwo, black is no share", f, code, impl.ErrRange)
			f, code = impl.FilmFromTwo(half, flatBut(1, i, a), white)
			wantNoFilm(t, "FilmFromTwo, over is no share", f, code, impl.ErrRange)
			f, code = impl.FilmFromTwo(half, bright, flatBut(tiniest, i, a))
			wantNoFilm(t, "FilmFromTwo, backing is no share", f, code, impl.ErrRange)
		}
		for _, none := range []float32{0, minus0} {
			f, code := impl.FilmFromTwo(half, bright, flatBut(tiniest, i, none))
			wantNoFilm(t, "FilmFromTwo, a backing of 0", f, code, impl.ErrRange)
		}
		f, code := impl.FilmFromTwo(half, bright, flatBut(1, i, tiniest))
		wantNoFilm(t, "FilmFromTwo, infinite", f, code, impl.ErrState)
		f, code = impl.FilmFromTwo(half, bright, flatBut(1, i, 0.125))
		wantNoFilm(t, "FilmFromTwo, more than all let through", f, code, impl.ErrState)
		f, code = impl.FilmFromTwo(half, bright, flatBut(1, i, 0.25))
		wantNoFilm(t, "FilmFromTwo, more than all", f, code, impl.ErrState)
	}
}

func TestP1ErrorsOfThicknesses(t *testing.T) {
	few, many := impl.FlatCurve(1), impl.FlatCurve(16384)
	for _, contrast := range notShares() {
		a, code := impl.ThicknessFor(few, few, contrast)
		wantNoNumber(t, "ThicknessFor such a contrast", a, code, impl.ErrRange)
		a, code = impl.ThicknessFor(many, many, contrast)
		wantNoNumber(t, "ThicknessFor such a contrast, too strong", a, code, impl.ErrRange)
	}
	cases := []struct {
		name           string
		k, s, contrast float32
		thick          float32
		want           int64
	}{
		{"too strong at once", 0, 16384, 1, 0, impl.ErrNotFound},
		{"found at once, then too strong", 0, 5000, 1, 0.125, impl.OK},
		{"too strong before it is found", 0, 5000, 0, 0, impl.ErrNotFound},
		{"not finite at once", 0, 8192, 1, 0, impl.ErrState},
		{"found at once, then not finite", 0, 4096, 0.5, 0.125, impl.OK},
		{"not finite before it is found", 0, 4096, 0, 0, impl.ErrState},
		{"a backing that cannot be seen through", 0, 8 * 1024 * mirrorLayer.S[0], 1, 0, impl.ErrState},
		{"all is seen", 0, 0, 1, 0.125, impl.OK},
		{"all is seen, at -0 as well", minus0, minus0, math.Nextafter32(1, 0), 0, impl.ErrNotFound},
		{"never dark enough", 0.01, 0.01, 0, 0, impl.ErrNotFound},
	}
	for _, x := range cases {
		thick, code := impl.ThicknessFor(impl.FlatCurve(x.k), impl.FlatCurve(x.s), x.contrast)
		wantCode(t, "ThicknessFor "+x.name, code, x.want)
		wantNumber(t, "ThicknessFor "+x.name, thick, x.thick)
	}
}

// Neither a list of layers nor what lies behind it is changed.
func TestP1StacksLeaveTheirLayers(t *testing.T) {
	r := newRandom(33)
	room := make([]impl.Layer, 8)
	for i := range room {
		room[i] = randomLayer(r, 1, 1, 1)
	}
	kept := append([]impl.Layer(nil), room...)
	first, code := impl.StackOf(room[:5])
	wantCode(t, "StackOf", code, impl.OK)
	for i, x := range room {
		wantTrue(t, "a layer behind StackOf", x == kept[i])
	}
	wantFilm(t, "StackOf in another place", stackOf(t, kept[:5]...), first)
}

// Arguments of any kind have equal results, and none makes a function panic.
func TestP1EqualResultsOfLayers(t *testing.T) {
	r := newRandom(34)
	for n := range 400 {
		k, s, b := anyCurve(r), anyCurve(r), anyCurve(r)
		if n%2 == 0 {
			k, s, b = randomCurve(r, 0, 2), randomCurve(r, 0, 2), randomCurve(r, 0, 1)
		}
		first, second := layerResultsOf(k, s, b), layerResultsOf(k, s, b)
		if len(first) != len(second) {
			t.Fatal("another number of results")
		}
		for i := range first {
			wantNumber(t, "the result of a second call", second[i], first[i])
		}
	}
}

func layerResultsOf(k, s, b impl.Curve) []float32 {
	var list []float32
	number := func(a float32, code int64) { list = append(list, a, float32(code)) }
	curve := func(c impl.Curve, code int64) { list = append(append(list, c[:]...), float32(code)) }
	film := func(f impl.Film, code int64) {
		curve(f.R, code)
		curve(f.B, code)
		curve(f.T, code)
	}
	x := impl.Layer{K: k, S: s, Thick: b[0]}
	f := impl.Film{R: k, B: s, T: b}
	made, _ := impl.FilmOf(x)
	for _, g := range []impl.Film{f, made} {
		film(impl.TurnFilm(g))
		film(impl.AddFilms(g, impl.EmptyFilm()))
		film(impl.AddFilms(g, f))
		curve(impl.OverBacking(g, b))
		curve(impl.LostIn(g))
	}
	film(impl.FilmOf(x))
	film(impl.StackOf([]impl.Layer{x, x}))
	film(impl.FilmFromTwo(k, s, b))
	film(impl.MirrorFilm(b[1]))
	curve(impl.RatioCurve(k, s))
	curve(impl.ThickOf(k, s))
	curve(impl.RatioOf(b))
	curve(impl.OfRatio(k))
	curve(impl.PaintOver(x, b))
	number(impl.ContrastOf(x))
	number(impl.ThicknessFor(k, s, b[2]))
	return list
}
