package tests

import (
	"math"
	"testing"

	"loop.example/g01213/impl"
)

func seenUnder(t *testing.T, light, c impl.Curve) impl.Three {
	t.Helper()
	seen, code := impl.SeenUnder(light, c)
	wantCode(t, "SeenUnder", code, impl.OK)
	return seen
}

func lightOf(t *testing.T, warmth float32) impl.Curve {
	t.Helper()
	light, code := impl.LightOf(warmth)
	wantCode(t, "LightOf", code, impl.OK)
	return light
}

func TestP3SeenAddsUp(t *testing.T) {
	r := newRandom(12)
	for range 500 {
		light := lightOf(t, randomBetween(r, -1, 1))
		c, d := randomCurve(r, 0, 1), randomCurve(r, 0, 1)
		u, v := seenUnder(t, light, c), seenUnder(t, light, d)
		both := seenUnder(t, light, impl.AddCurves(c, d))
		twice := seenUnder(t, light, impl.ScaleCurve(c, 2))
		other := seenUnder(t, impl.ScaleCurve(light, 4), c)
		for i := range both {
			wantTrue(t, "what is seen of a sum", near(float64(both[i]), float64(u[i])+float64(v[i]), 1e-5))
			wantNumber(t, "what is seen of twice as much", twice[i], 2*u[i])
			wantNumber(t, "what is seen under four times as much light", other[i], u[i])
		}
	}
	black := seenUnder(t, lightOf(t, 0), impl.Curve{})
	wantThree(t, "what is seen of black", black, impl.Three{})
}

// The second observer tells how bright something is, and the light is measured by it.
func TestP3GreysLookAsBrightUnderAllLights(t *testing.T) {
	for _, grey := range []float32{0, 0.01, 0.18, 0.5, 0.75, 1, 2} {
		want := 116*math.Cbrt(float64(grey)) - 16
		for _, warmth := range []float32{-1, -0.5, -0.1, 0, minus0, tiniest, 0.3, 0.5, 0.99, 1} {
			look, code := impl.LookUnder(lightOf(t, warmth), impl.FlatCurve(grey))
			wantCode(t, "LookUnder", code, impl.OK)
			if !near(float64(look[0]), want, 1e-3) {
				t.Errorf("the lightness of the grey %v under the light %v: got %v, nearly %v", grey, warmth, look[0], want)
			}
		}
	}
}

func TestP3Bumps(t *testing.T) {
	narrowest, code := impl.Bump(3, tiniest)
	wantCode(t, "the narrowest bump", code, impl.OK)
	wantCurve(t, "the narrowest bump", narrowest, flatBut(0, 3, 1))
	between, _ := impl.Bump(3.5, tiniest)
	wantCurve(t, "the narrowest bump, between wavelengths", between, impl.Curve{})
	widest, code := impl.Bump(0, largest)
	wantCode(t, "the widest bump", code, impl.OK)
	wantCurve(t, "the widest bump", widest, impl.FlatCurve(1))
	far, _ := impl.Bump(-largest, 1)
	wantCurve(t, "a bump far away", far, impl.Curve{})
	away, _ := impl.Bump(largest, largest)
	wantCurve(t, "a wide bump far away", away, impl.FlatCurve(0.25))
	zero, code := impl.Bump(minus0, 1)
	wantCode(t, "a bump at -0", code, impl.OK)
	wantNumber(t, "a bump at -0", zero[0], 1)
	wantNumber(t, "a bump at -0, beside it", zero[1], 0.25)

	r := newRandom(13)
	for range 300 {
		place, width := r.IntN(16), randomBetween(r, 0.1, 9)
		bump, _ := impl.Bump(float32(place), width)
		most, where := impl.GreatestOf(bump)
		wantNumber(t, "the top of a bump", most, 1)
		wantCode(t, "the place of the top", where, int64(place))
		for i := range bump {
			x := (float64(i) - float64(place)) / float64(width)
			want := 1 / ((1 + x*x) * (1 + x*x))
			wantTrue(t, "a number of a bump", near(float64(bump[i]), want, 1e-6))
			if mirror := 2*place - i; mirror >= 0 && mirror < 16 {
				wantNumber(t, "the other side of a bump", bump[mirror], bump[i])
			}
		}
	}
}

func TestP3Observers(t *testing.T) {
	observers := impl.Observers()
	near0, _ := impl.Bump(10.5, 3)
	low, _ := impl.Bump(2.5, 2)
	middle, _ := impl.Bump(8, 3)
	short, _ := impl.Bump(3, 2)
	wantCurve(t, "the first observer", observers[0], impl.AddCurves(near0, impl.ScaleCurve(low, 0.25)))
	wantCurve(t, "the second observer", observers[1], middle)
	wantCurve(t, "the third observer", observers[2], impl.ScaleCurve(short, 1.5))
	wantNumber(t, "the second observer at 8", observers[1][8], 1)
	wantNumber(t, "the second observer at 5", observers[1][5], 0.25)
	wantNumber(t, "the third observer at 3", observers[2][3], 1.5)
	wantNumber(t, "the third observer at 4", observers[2][4], float32(1.5)*float32(0.64))
	for i, o := range observers {
		least, _ := impl.LeastOf(o)
		wantTrue(t, "an observer feels all wavelengths", least > 0)
		_, where := impl.GreatestOf(o)
		wantCode(t, "the wavelength that is felt most", where, [3]int64{10, 8, 3}[i])
	}
}

func TestP3Lights(t *testing.T) {
	for _, warmth := range []float32{0, minus0, tiniest, -tiniest} {
		wantCurve(t, "a light that is neither warm nor cold", lightOf(t, warmth), impl.FlatCurve(1))
	}
	warm, cold, half := lightOf(t, 1), lightOf(t, -1), lightOf(t, 0.5)
	for i := range warm {
		x := (float32(i) - 7.5) / 8
		wantNumber(t, "the warmest light", warm[i], 1+x)
		wantNumber(t, "the coldest light", cold[i], 1-x)
		wantNumber(t, "a warm light", half[i], 1+x/2)
	}
	wantNumber(t, "the warmest light at 0", warm[0], 0.0625)
	wantNumber(t, "the warmest light at 15", warm[15], 1.9375)
}

func TestP3Looks(t *testing.T) {
	cases := []struct{ seen, look impl.Three }{
		{impl.Three{1, 1, 1}, impl.Three{100, 0, 0}},
		{impl.Three{8, 1, 27}, impl.Three{100, 500, -400}},
		{impl.Three{}, impl.Three{-16, 0, 0}},
		{impl.Three{minus0, minus0, minus0}, impl.Three{-16, 0, 0}},
		{impl.Three{-1, -8, 0.125}, impl.Three{-248, 500, -500}},
		{impl.Three{0, 0.125, 0}, impl.Three{42, -250, 100}},
	}
	for _, x := range cases {
		look, code := impl.LookOf(x.seen)
		wantCode(t, "LookOf", code, impl.OK)
		wantThree(t, "LookOf", look, x.look)
	}
	for _, a := range []float32{largest, -largest, tiniest, -tiniest} {
		look, code := impl.LookOf(impl.Three{a, a, a})
		wantCode(t, "LookOf at the ends", code, impl.OK)
		root, _ := impl.CubeRoot(a)
		wantThree(t, "LookOf at the ends", look, impl.Three{float32(116*root) - 16, 0, 0})
	}
}

func TestP3Differences(t *testing.T) {
	r := newRandom(14)
	for range 300 {
		u := impl.Three{randomBetween(r, 0, 100), randomBetween(r, -99, 99), randomBetween(r, -99, 99)}
		v := impl.Three{randomBetween(r, 0, 100), randomBetween(r, -99, 99), randomBetween(r, -99, 99)}
		wantNumber(t, "a look has no difference from itself", impl.DifferenceOf(u, u), 0)
		wantNumber(t, "a look has no distance from itself", impl.DistanceOf(u, u), 0)
		wantNumber(t, "a distance back", impl.DistanceOf(v, u), impl.DistanceOf(u, v))
		wantTrue(t, "a difference is at most the distance", impl.DifferenceOf(u, v) <= impl.DistanceOf(u, v))
	}
	wantNumber(t, "DistanceOf 2, 3 and 6", impl.DistanceOf(impl.Three{1, 1, 1}, impl.Three{3, 4, 7}), 7)
	grey := impl.Three{50, 0, 0}
	wantNumber(t, "the difference of greys", impl.DifferenceOf(grey, impl.Three{47, 0, 0}), 3)
	wantNumber(t, "the difference from a grey", impl.DifferenceOf(grey, impl.Three{50, 3, 4}), 5)
	wantNumber(t, "the difference from a colourful look", impl.DifferenceOf(impl.Three{50, 60, 80}, impl.Three{50, 63, 84}), 2.5)
	wantNumber(t, "lightness is not divided", impl.DifferenceOf(impl.Three{50, 60, 80}, impl.Three{56, 76, 80}), 10)
	wantNumber(t, "the difference of looks without colour", impl.DifferenceOf(impl.Three{minus0, minus0, minus0}, impl.Three{}), 0)
}
