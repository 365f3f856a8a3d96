package tests

import (
	"math"
	"slices"
	"testing"

	"loop.example/g01213/impl"
)

func wantPair(t *testing.T, name string, first, second, c, d impl.Curve, close, away float32, wanted bool) {
	t.Helper()
	is, code := impl.ArePair(first, second, c, d, close, away)
	wantFound(t, name, is, code, wanted)
}

// threeLights are a flat light, one of short wavelengths, and one of long ones.
func threeLights() (impl.Curve, impl.Curve, impl.Curve) {
	var short, long impl.Curve
	for i := range short {
		short[i], long[i] = 0.01, 0.01
		if i < 8 {
			short[i] = 1
		} else {
			long[i] = 1
		}
	}
	return impl.FlatCurve(1), short, long
}

func TestLightsWorst(t *testing.T) {
	r := newRandom(411)
	for n := range 100 {
		c, d := randomCurve(r, 0, 1), randomCurve(r, 0, 1)
		var lights []impl.Curve
		for range 1 + n%impl.MaxLights {
			lights = append(lights, randomCurve(r, 0, 1))
		}
		lights = append(lights, lights[r.IntN(len(lights))])
		lights = lights[:min(len(lights), impl.MaxLights)]
		list, code := impl.UnlikeUnder(lights, c, d)
		wantCode(t, "UnlikeUnder", code, impl.OK)
		worst := 0
		for i, off := range list {
			if off > list[worst] {
				worst = i
			}
		}
		at, code := impl.WorstLight(lights, c, d)
		wantFound(t, "WorstLight", at, code, int64(worst))
	}
	flat, short, long := threeLights()
	c := impl.FlatCurve(0.5)
	for _, list := range [][]impl.Curve{{flat}, {short, long, flat}, {flat, flat, flat, flat, flat, flat, flat, flat}} {
		at, code := impl.WorstLight(list, c, c)
		wantFound(t, "WorstLight of equal curves", at, code, 0)
		unlike, code := impl.UnlikeUnder(list, c, c)
		wantCode(t, "UnlikeUnder of equal curves", code, impl.OK)
		wantTrue(t, "UnlikeUnder of equal curves", slices.Equal(unlike, make([]float32, len(list))))
	}
	d := c
	d[15] = 0.9
	for i := range 3 {
		lights := []impl.Curve{short, short, short, short}
		lights[i], lights[i+1] = long, long
		at, code := impl.WorstLight(lights, c, d)
		wantFound(t, "WorstLight, the first one of two", at, code, int64(i))
	}
}

// The first curve is the one by whose colours the difference is divided, so that the difference may be another one the other way.
func TestLightsKnowTheFirstCurve(t *testing.T) {
	flat, _, _ := threeLights()
	grey, red := impl.FlatCurve(0.5), flatBut(0.5, 11, 1)
	forth, code := impl.UnlikeUnder([]impl.Curve{flat}, grey, red)
	wantCode(t, "UnlikeUnder", code, impl.OK)
	back, code := impl.UnlikeUnder([]impl.Curve{flat}, red, grey)
	wantCode(t, "UnlikeUnder", code, impl.OK)
	wantTrue(t, "colours are less unlike greys than greys are unlike colours", back[0] < forth[0])
	wantNumber(t, "UnlikeUnder", forth[0], oracleUnlike(flat, grey, red))
	wantNumber(t, "UnlikeUnder", back[0], oracleUnlike(flat, red, grey))
}

func TestLightsPairs(t *testing.T) {
	r := newRandom(412)
	for range 60 {
		c, d, first, second := randomCurve(r, 0, 1), randomCurve(r, 0, 1), randomCurve(r, 0, 1), randomCurve(r, 0, 1)
		list, code := impl.UnlikeUnder([]impl.Curve{first, second}, c, d)
		wantCode(t, "UnlikeUnder", code, impl.OK)
		below, above := math.Nextafter32(list[0], 0), math.Nextafter32(list[1], 1000)
		wantPair(t, "near and far that are just reached", first, second, c, d, list[0], list[1], true)
		wantPair(t, "near that is not reached", first, second, c, d, below, list[1], false)
		wantPair(t, "far that is not reached", first, second, c, d, list[0], above, false)
		wantPair(t, "neither of both", first, second, c, d, below, above, false)
		wantPair(t, "all is near, and far", first, second, c, d, largest, -largest, true)
		wantPair(t, "the greatest far", first, second, c, d, largest, largest, false)
		wantPair(t, "the least near", first, second, c, d, -largest, 0, false)
	}
	flat, short, long := threeLights()
	c := impl.FlatCurve(0.5)
	d := flatBut(0.5, 11, 0.9) // 0.3 off under the short light, 8 under the long one
	wantPair(t, "a pair", short, long, c, d, 1, 2, true)
	wantPair(t, "a pair the other way", long, short, c, d, 1, 2, false)
	wantPair(t, "equal curves", flat, flat, c, c, 0, 0, true)
	wantPair(t, "equal curves, and -0", flat, flat, c, c, minus0, minus0, true)
	wantPair(t, "equal curves are not far", flat, flat, c, c, 0, tiniest, false)
	wantPair(t, "equal curves are not nearer than near", flat, flat, c, c, -tiniest, 0, false)
}

func TestLightsErrors(t *testing.T) {
	flat, c := impl.FlatCurve(1), impl.FlatCurve(0.5)
	for _, count := range []int{0, impl.MaxLights + 1, 100, 100000} {
		for _, curve := range []impl.Curve{c, impl.FlatCurve(nan)} {
			lights := slices.Repeat([]impl.Curve{flat}, count)
			list, code := impl.UnlikeUnder(lights, curve, c)
			wantNoList(t, "UnlikeUnder so many lights", list, code, impl.ErrRange)
			at, code := impl.WorstLight(lights, curve, c)
			wantNone(t, "WorstLight of so many lights", at, code, impl.ErrRange)
		}
	}
	for i := range impl.MaxLights {
		for _, bad := range []float32{0, minus0, nan, infinite, -infinite} {
			lights := slices.Repeat([]impl.Curve{flat}, impl.MaxLights)
			lights[i] = impl.FlatCurve(bad)
			list, code := impl.UnlikeUnder(lights, c, c)
			wantNoList(t, "UnlikeUnder no such light", list, code, impl.ErrState)
			at, code := impl.WorstLight(lights, c, c)
			wantNone(t, "WorstLight of no such light", at, code, impl.ErrState)
		}
	}
	for _, bad := range []float32{nan, infinite, -infinite} {
		for i := range 16 {
			list, code := impl.UnlikeUnder([]impl.Curve{flat}, flatBut(1, i, bad), c)
			wantNoList(t, "UnlikeUnder, the first curve", list, code, impl.ErrState)
			list, code = impl.UnlikeUnder([]impl.Curve{flat}, c, flatBut(1, i, bad))
			wantNoList(t, "UnlikeUnder, the second curve", list, code, impl.ErrState)
		}
	}
	list, code := impl.UnlikeUnder([]impl.Curve{flat}, impl.FlatCurve(-0.5), impl.FlatCurve(1e30))
	wantCode(t, "UnlikeUnder of curves that are finite", code, impl.OK)
	wantNumber(t, "UnlikeUnder of curves that are finite", list[0], oracleUnlike(flat, impl.FlatCurve(-0.5), impl.FlatCurve(1e30)))
}

func TestLightsErrorsOfPairs(t *testing.T) {
	flat, c := impl.FlatCurve(1), impl.FlatCurve(0.5)
	for _, light := range []impl.Curve{flat, {}, impl.FlatCurve(nan)} {
		for _, bad := range []float32{nan, infinite, -infinite} {
			for _, near := range []float32{0, bad} {
				is, code := impl.ArePair(light, flat, c, c, near, bad)
				wantNone(t, "ArePair, far is not finite", is, code, impl.ErrRange)
				is, code = impl.ArePair(flat, light, c, c, bad, near)
				wantNone(t, "ArePair, near is not finite", is, code, impl.ErrRange)
			}
		}
	}
	for _, light := range []impl.Curve{{}, impl.FlatCurve(nan), impl.FlatCurve(infinite)} {
		is, code := impl.ArePair(light, flat, c, c, 0, 0)
		wantNone(t, "ArePair, the first light", is, code, impl.ErrState)
		is, code = impl.ArePair(flat, light, c, c, 0, 0)
		wantNone(t, "ArePair, the second light", is, code, impl.ErrState)
		is, code = impl.ArePair(flat, light, c, impl.FlatCurve(1), 0, 0)
		wantNone(t, "ArePair, the second light, where the first one is not near", is, code, impl.ErrState)
		is, code = impl.ArePair(flat, flat, impl.FlatCurve(nan), c, 0, 0)
		wantNone(t, "ArePair, the first curve", is, code, impl.ErrState)
		is, code = impl.ArePair(flat, flat, c, impl.FlatCurve(nan), 0, 0)
		wantNone(t, "ArePair, the second curve", is, code, impl.ErrState)
	}
}
