package tests

import (
	"math"
	"testing"

	"loop.example/g01213/impl"
)

// solidCover has all of the inks of a key, and nothing of the others.
func solidCover(n int) impl.Cover {
	var c impl.Cover
	for i := range c {
		if oracleHas(n, i) {
			c[i] = 1
		}
	}
	return c
}

func TestP11KeysHaveNumbers(t *testing.T) {
	for n := range 16 {
		k := keyOf(t, int64(n))
		for i, has := range k {
			want(t, "KeyOf, an ink", has, oracleHas(n, i))
		}
		want(t, "NumberOfKey", impl.NumberOfKey(k), int64(n))
	}
	want(t, "the key 0", keyOf(t, 0), impl.Key{})
	want(t, "the key 15", keyOf(t, 15), impl.Key{true, true, true, true})
	want(t, "the key of the first ink", keyOf(t, 1), impl.Key{true})
	want(t, "the key of the last ink", keyOf(t, 8), impl.Key{3: true})
}

func TestP11KeysWithoutInksPrintThePaper(t *testing.T) {
	r := newRandom(1101)
	for range 100 {
		for _, p := range []impl.Press{randomPress(r), edgePress(r)} {
			wantCurve(t, "OverprintOf the key without inks", overprintOf(t, p, impl.Key{}), p.Paper)
			wantCurve(t, "OverprintOf one ink", overprintOf(t, p, impl.Key{1: true}), impl.MulCurves(p.Paper, p.Inks[1]))
		}
	}
	p := flatPress(0.5, 1, 0.5, 0.25, 0.125, 0)
	for k, a := range map[impl.Key]float32{{}: 0.5, {true}: 0.25, {true, true}: 0.0625, {true, true, true}: 0.0078125, {false, true, true}: 0.015625, {true, true, true, true}: 0, {3: true}: 0} {
		wantCurve(t, "OverprintOf a key", overprintOf(t, p, k), impl.FlatCurve(a))
	}
}

func TestP11AreasAddUpToOne(t *testing.T) {
	r := newRandom(1102)
	for _, c := range someCovers(r, 300) {
		areas, code := impl.AreasOf(c)
		wantCode(t, "AreasOf", code, impl.OK)
		sum := 0.0
		var inks [4]float64
		for n, area := range areas {
			wantTrue(t, "AreasOf are shares", area >= 0 && area <= 1)
			sum += float64(area)
			for i := range inks {
				if oracleHas(n, i) {
					inks[i] += float64(area)
				}
			}
		}
		wantTrue(t, "areas add up to 1", near(sum, 1, 1e-6))
		for i, ink := range inks {
			wantTrue(t, "the areas with an ink add up to its cover", near(ink, float64(c[i]), 1e-6))
		}
	}
	for n := range 16 {
		var alone [16]float32
		alone[n] = 1
		areas, code := impl.AreasOf(solidCover(n))
		wantFound(t, "AreasOf a solid cover", areas, code, alone)
	}
	areas, code := impl.AreasOf(impl.Cover{0.5, 0.25, 0, 1})
	wantFound(t, "AreasOf a half and a quarter on black", areas, code, [16]float32{8: 0.375, 9: 0.375, 10: 0.125, 11: 0.125})
}

func TestP11SolidCoversPrintOverprints(t *testing.T) {
	r := newRandom(1103)
	for range 60 {
		for _, p := range []impl.Press{randomPress(r), edgePress(r), colourPress()} {
			wantNearCurve(t, "a cover of nothing prints the paper", printedCurve(t, p, impl.Cover{}), p.Paper, 1e-6)
			for n := range 16 {
				wantNearCurve(t, "a solid cover prints an overprint", printedCurve(t, p, solidCover(n)), oracleOverprint(p, n), 1e-6)
			}
		}
	}
	// The square root of a square number is exact.
	p := flatPress(0.25, 1, 0.25, 0.0625, 1, 0)
	for n, a := range map[int]float32{0: 0.25, 1: 0.0625, 2: 0.015625, 3: 0.00390625, 4: 0.25, 7: 0.00390625, 8: 0, 15: 0} {
		wantCurve(t, "a solid cover prints an overprint of squares", printedCurve(t, p, solidCover(n)), impl.FlatCurve(a))
	}
	wantCurve(t, "a half", printedCurve(t, flatPress(1, 0, 0.25), impl.Cover{0.5}), impl.FlatCurve(0.5625))
	wantCurve(t, "a half that grows", printedCurve(t, flatPress(1, 0.25, 0.25), impl.Cover{0.5}), impl.FlatCurve(0.390625))
}

func TestP11PrintsLookAsTheirCurves(t *testing.T) {
	p, light := colourPress(), impl.FlatCurve(1)
	wantThree(t, "the look of a white paper", printedLook(t, flatPress(1, 0), impl.Cover{}, light), lookUnder(t, light, impl.FlatCurve(1)))
	for i := range 4 {
		var c impl.Cover
		for _, a := range []float32{0.25, 0.5, 0.75, 1} {
			lighter := printedLook(t, p, c, light)
			c[i] = a
			wantTrue(t, "more ink is darker", printedLook(t, p, c, light)[0] < lighter[0])
			wantThree(t, "PrintedLook", printedLook(t, p, c, light), lookUnder(t, light, printedCurve(t, p, c)))
		}
	}
}

func TestP11SharesGrow(t *testing.T) {
	r := newRandom(1104)
	for range 500 {
		gain, a := randomBetween(r, 0, 1), randomBetween(r, 0, 1)
		grown := gainAt(t, gain, a)
		wantTrue(t, "what grows is a share, and not less", grown >= a && grown <= 1)
		wantNumber(t, "without gain", gainAt(t, 0, a), a)
		wantNumber(t, "nothing does not grow", gainAt(t, gain, 0), 0)
		wantNumber(t, "all does not grow", gainAt(t, gain, 1), 1)
	}
	for _, c := range []struct{ gain, a, grown float32 }{
		{0, 0, 0}, {0, 1, 1}, {1, 0, 0}, {1, 1, 1}, {1, 0.5, 1}, {1, 0.25, 1}, {1, 0.125, 0.5625}, {0.5, 0.5, 1}, {0.5, 0.75, 1},
		{0.25, 0.5, 0.75}, {0.25, 0.25, 0.4375}, {0.25, 0.75, 0.9375}, {1, math.Nextafter32(1, 0), 1}, {0, tiniest, tiniest}, {1, tiniest, 5 * tiniest},
	} {
		wantNumber(t, "GainAt", gainAt(t, c.gain, c.a), c.grown)
	}
	grown, code := impl.CoverWithGain(flatPress(1, 0.25), impl.Cover{0.5, 0, 1, 0.25})
	wantCover(t, "CoverWithGain", grown, code, impl.Cover{0.75, 0, 1, 0.4375})
	grown, code = impl.CoverWithGain(flatPress(1, 1), impl.Cover{0.5, 0.75, 0.125, 0.25})
	wantCover(t, "CoverWithGain 1", grown, code, impl.Cover{1, 1, 0.5625, 1})
	c := impl.Cover{0.5, 0.75, minus0, 0.1}
	grown, code = impl.CoverWithGain(flatPress(1, 0), c)
	wantCover(t, "CoverWithGain 0", grown, code, c)
}

func TestP11CoversBeforeGains(t *testing.T) {
	const step = 0x1p-20
	r := newRandom(1105)
	for range 500 {
		gain, a := randomBetween(r, 0, 1), randomBetween(r, 0, 1)
		before, code := impl.CoverBefore(gain, a)
		wantCode(t, "CoverBefore", code, impl.OK)
		wantTrue(t, "CoverBefore is a share", before >= step && before <= 1)
		wantTrue(t, "what is before grows enough", gainAt(t, gain, before) >= a)
		wantTrue(t, "what is less does not", before == step || gainAt(t, gain, before-step) < a)
		back, code := impl.CoverBefore(gain, gainAt(t, gain, min(a, 0.2)))
		wantCode(t, "CoverBefore", code, impl.OK)
		wantTrue(t, "CoverBefore GainAt", near(float64(back), float64(min(a, 0.2)), 2e-6))
	}
	for _, c := range []struct{ gain, a, before float32 }{
		{0, 0, step}, {1, 0, step}, {0.5, minus0, step}, {0, tiniest, step}, {0, step, step}, {0, math.Nextafter32(step, 1), 2 * step},
		{0, 0.5, 0.5}, {0, 1, 1}, {0.25, 0.75, 0.5}, {0.25, 0.4375, 0.25}, {1, 1, 0.25}, {0.5, 1, 0.5}, {0, math.Nextafter32(1, 0), 1},
	} {
		before, code := impl.CoverBefore(c.gain, c.a)
		wantFound(t, "CoverBefore", before, code, c.before)
	}
}

func TestP11CoversAreSeen(t *testing.T) {
	r := newRandom(1106)
	for range 100 {
		p := randomPress(r)
		for i := range 4 {
			cases := []struct {
				name     string
				measured impl.Curve
				seen     float32
			}{
				{"the paper", p.Paper, 0}, {"the ink", oracleOverprint(p, 1<<i), 1},
				{"lighter than the paper", impl.FlatCurve(2), 0}, {"darker than the ink", impl.FlatCurve(-1), 1},
				{"infinite light", flatBut(0.5, i, infinite), 0}, {"light that is -infinite", flatBut(0.5, i, -infinite), 1},
				{"a sum that is infinite", impl.FlatCurve(largest), 0}, {"a sum that is -infinite", impl.FlatCurve(-largest), 1},
			}
			for _, c := range cases {
				seen, code := impl.CoverSeen(p, int64(i), c.measured)
				wantFound(t, "CoverSeen, "+c.name, seen, code, c.seen)
			}
			half := impl.MixCurves(p.Paper, oracleOverprint(p, 1<<i), 0.5)
			seen, code := impl.CoverSeen(p, int64(i), half)
			wantCode(t, "CoverSeen, a half", code, impl.OK)
			wantTrue(t, "CoverSeen, a half", near(float64(seen), 0.5, 1e-5))
		}
	}
	p := flatPress(1, 1, 0, 0.5, 0.75, 0.25)
	for i, wanted := range []float32{0.25, 0.5, 1, 0.33333334} {
		seen, code := impl.CoverSeen(p, int64(i), impl.FlatCurve(0.75))
		wantFound(t, "CoverSeen of a grey", seen, code, wanted)
	}
}
