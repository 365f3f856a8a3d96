package tests

import (
	"math"
	"testing"

	"loop.example/g01213/impl"
)

func TestP1CodeNames(t *testing.T) {
	names := map[int64]string{
		impl.OK: "ok", impl.ErrInvalid: "invalid", impl.ErrRange: "range",
		impl.ErrLimit: "limit", impl.ErrState: "state", impl.ErrSyntax: "syntax",
		impl.ErrNotFound: "notfound", impl.ErrBudget: "budget", impl.ErrProof: "proof",
		-1: "", 9: "", math.MinInt64: "", math.MaxInt64: "", 1 << 32: "",
	}
	if len(names) != 14 {
		t.Fatal("two codes are the same")
	}
	for code, want := range names {
		if got := impl.CodeName(code); got != want {
			t.Errorf("CodeName(%d): got %q, want %q", code, got, want)
		}
	}
	for i, want := range []string{"ok", "invalid", "range", "limit", "state", "syntax", "notfound", "budget", "proof"} {
		if got := impl.CodeName(int64(i)); got != want {
			t.Errorf("CodeName(%d): got %q, want %q", i, got, want)
		}
	}
}

func TestP1SameNumber(t *testing.T) {
	for _, a := range specials() {
		for _, b := range specials() {
			if got, want := impl.SameNumber(a, b), same(a, b); got != want {
				t.Errorf("SameNumber(%v, %v): got %v, want %v", a, b, got, want)
			}
		}
	}
	wantTrue(t, "two NaN are the same", impl.SameNumber(nan, math.Float32frombits(0xffc00001)))
	wantTrue(t, "0 and -0 are not the same", !impl.SameNumber(0, minus0))
}

func TestP1SameCurveAndThree(t *testing.T) {
	r := newRandom(1)
	for range 200 {
		c, d := anyCurve(r), anyCurve(r)
		wantTrue(t, "a curve is the same as itself", impl.SameCurve(c, c))
		if impl.SameCurve(c, d) != sameCurve(c, d) {
			t.Errorf("SameCurve(%v, %v) is wrong", c, d)
		}
		u := impl.Three{c[0], c[1], c[2]}
		wantTrue(t, "three numbers are the same as themselves", impl.SameThree(u, u))
	}
	for i := range 16 {
		c := impl.FlatCurve(0)
		wantTrue(t, "one -0 makes another curve", !impl.SameCurve(c, flatBut(0, i, minus0)))
		wantTrue(t, "one NaN makes another curve", !impl.SameCurve(c, flatBut(0, i, nan)))
		other := math.Float32frombits(0x7f800001)
		wantTrue(t, "NaN are the same in curves", impl.SameCurve(flatBut(0, i, other), flatBut(0, i, nan)))
	}
	for i := range 3 {
		var u, v, w impl.Three
		u[i], v[i], w[i] = minus0, nan, math.Float32frombits(0xffffffff)
		wantTrue(t, "0 and -0 in three", !impl.SameThree(u, impl.Three{}))
		wantTrue(t, "NaN and 0 in three", !impl.SameThree(v, impl.Three{}))
		wantTrue(t, "NaN and NaN in three", impl.SameThree(v, w))
		u[i] = 1
		wantTrue(t, "0 and 1 in three", !impl.SameThree(u, impl.Three{}))
	}
}

func TestP1IsFiniteCurve(t *testing.T) {
	for i := range 16 {
		for _, a := range specials() {
			wide := float64(a)
			want := !math.IsNaN(wide) && !math.IsInf(wide, 0)
			if got := impl.IsFiniteCurve(flatBut(1, i, a)); got != want {
				t.Errorf("IsFiniteCurve with %v at %d: got %v", a, i, got)
			}
		}
	}
}

// Equal arguments, also NaN and infinite ones, have the same results.
func TestP1EqualResults(t *testing.T) {
	r := newRandom(2)
	for range 500 {
		c, d := anyCurve(r), anyCurve(r)
		a, b := c[0], d[0]
		u, v := impl.Three{c[1], c[2], c[3]}, impl.Three{d[1], d[2], d[3]}
		first, second := resultsOf(c, d, a, b, u, v), resultsOf(c, d, a, b, u, v)
		if len(first) != len(second) {
			t.Fatal("another number of results")
		}
		for i := range first {
			wantNumber(t, "the result of a second call", second[i], first[i])
		}
	}
}

func resultsOf(c, d impl.Curve, a, b float32, u, v impl.Three) []float32 {
	var list []float32
	curves := func(results ...impl.Curve) {
		for _, x := range results {
			list = append(list, x[:]...)
		}
	}
	curves(impl.FlatCurve(a), impl.AddCurves(c, d), impl.MulCurves(c, d), impl.ScaleCurve(c, a), impl.MixCurves(c, d, a))
	bump, one := impl.Bump(a, b)
	light, two := impl.LightOf(a)
	read, three := impl.ReadCurve(impl.CurveText(c))
	curves(bump, light, read)
	seen, four := impl.SeenUnder(c, d)
	look, five := impl.LookOf(u)
	under, six := impl.LookUnder(c, d)
	for _, x := range []impl.Three{seen, look, under} {
		list = append(list, x[:]...)
	}
	root, seven := impl.CubeRoot(a)
	power, eight := impl.PowerOf(a, b)
	number, nine := impl.ReadNumber(impl.NumberText(a))
	least, at := impl.LeastOf(c)
	most, where := impl.GreatestOf(c)
	list = append(list, impl.SumOfCurve(c), impl.DotOfCurves(c, d), root, power, number, least, most, impl.DistanceOf(u, v), impl.DifferenceOf(u, v))
	for _, n := range []int64{one, two, three, four, five, six, seven, eight, nine, at, where} {
		list = append(list, float32(n))
	}
	return list
}

// What a caller does with a result changes no later one.
func TestP1ObserversAreCopies(t *testing.T) {
	first := impl.Observers()
	kept := first
	first[0][0], first[1][5], first[2][15] = 7, 7, 7
	if impl.Observers() != kept {
		t.Error("Observers returns another result after the first one was changed")
	}
}

// Beside an error all other results are zero, and the codes are those of the document.
func TestP1ErrorsOfNumbers(t *testing.T) {
	for _, a := range []float32{nan, infinite, -infinite} {
		root, code := impl.CubeRoot(a)
		wantCode(t, "CubeRoot", code, impl.ErrRange)
		wantNumber(t, "CubeRoot beside an error", root, 0)
		for i := range 3 {
			seen := impl.Three{1, 1, 1}
			seen[i] = a
			look, code := impl.LookOf(seen)
			wantCode(t, "LookOf", code, impl.ErrRange)
			wantThree(t, "LookOf beside an error", look, impl.Three{})
		}
	}
	up := math.Nextafter32
	powers := [][2]float32{
		{nan, 1}, {infinite, 1}, {-infinite, 1}, {-1, 2}, {-tiniest, 1}, {nan, 0}, {infinite, 0},
		{2, nan}, {2, infinite}, {2, -tiniest}, {2, -1}, {2, up(16, 17)}, {2, 17}, {1, nan}, {1, 17},
		{0, nan}, {0, -1}, {0, 17}, {minus0, 17}, {largest, 1}, {0x1p121, 1}, {up(0x1p120, infinite), 1}, {0x1p8, 16}, {0x1p61, 2},
	}
	for _, p := range powers {
		power, code := impl.PowerOf(p[0], p[1])
		if code != impl.ErrRange || !same(power, 0) {
			t.Errorf("PowerOf(%v, %v): got %v and the code %d", p[0], p[1], power, code)
		}
	}
}

func TestP1ErrorsOfCurves(t *testing.T) {
	for _, p := range [][2]float32{{nan, 1}, {infinite, 1}, {-infinite, 1}, {0, 0}, {0, minus0}, {0, -tiniest}, {0, -1}, {0, nan}, {0, infinite}, {0, -infinite}, {nan, nan}} {
		bump, code := impl.Bump(p[0], p[1])
		if code != impl.ErrRange || !sameCurve(bump, impl.Curve{}) {
			t.Errorf("Bump(%v, %v): got %v and the code %d", p[0], p[1], bump, code)
		}
	}
	for _, a := range []float32{nan, infinite, -infinite, math.Nextafter32(1, 2), math.Nextafter32(-1, -2), 2, -2} {
		light, code := impl.LightOf(a)
		if code != impl.ErrRange || !sameCurve(light, impl.Curve{}) {
			t.Errorf("LightOf(%v): got %v and the code %d", a, light, code)
		}
	}
	white := impl.FlatCurve(1)
	pairs := [][2]impl.Curve{
		{impl.Curve{}, white}, {impl.FlatCurve(minus0), white}, {impl.FlatCurve(nan), white}, {impl.FlatCurve(infinite), white},
		{white, flatBut(1, 3, nan)}, {white, flatBut(1, 15, infinite)}, {white, flatBut(1, 0, -infinite)},
		{flatBut(1, 7, infinite), impl.Curve{}}, {impl.FlatCurve(largest), white}, {impl.Curve{}, impl.Curve{}},
		{white, flatBut(0, 3, 3e38)},  // only the third number is not finite
		{white, {10: 3e38, 11: 3e38}}, // only the first one
	}
	for _, p := range pairs {
		seen, code := impl.SeenUnder(p[0], p[1])
		look, second := impl.LookUnder(p[0], p[1])
		if code != impl.ErrState || second != impl.ErrState || !sameThree(seen, impl.Three{}) || !sameThree(look, impl.Three{}) {
			t.Errorf("seen of %v under %v: got %v, %v and the codes %d, %d", p[1], p[0], seen, look, code, second)
		}
	}
}
