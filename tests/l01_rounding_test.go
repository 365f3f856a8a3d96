package tests

import (
	"math"
	"testing"

	"loop.example/g01213/impl"
)

// P1, 'Numbers and roundings': each step is rounded once, narrow ones narrowly and wide ones widely.

func TestP1RoundingOfSums(t *testing.T) {
	r := newRandom(3)
	for range 300 {
		c, d := randomCurve(r, -3, 5), randomCurve(r, -3, 5)
		share := randomBetween(r, -1, 2)
		x, y := numbersOf(c), numbersOf(d)
		wantNumber(t, "SumOfCurve", impl.SumOfCurve(c), narrowed(oracleSum(x)))
		wantNumber(t, "DotOfCurves", impl.DotOfCurves(c, d), narrowed(oracleDot(x, y)))
		wantCurve(t, "MulCurves", impl.MulCurves(c, d), curveOf(oracleProducts(x, y)))
		wantCurve(t, "ScaleCurve", impl.ScaleCurve(c, share), curveOf(oracleProducts(x, numbersOf(impl.FlatCurve(share)))))
		wantCurve(t, "MixCurves", impl.MixCurves(c, d, share), curveOf(oracleMix(x, y, share)))
		sum := impl.AddCurves(c, d)
		for i := range sum {
			wantNumber(t, "AddCurves", sum[i], narrowed(narrow.add(x[i], y[i])))
		}
	}
}

func TestP1RoundingOfBumpsAndLights(t *testing.T) {
	r := newRandom(4)
	for range 300 {
		place, width := randomBetween(r, -20, 40), randomBetween(r, 0.01, 12)
		bump, code := impl.Bump(place, width)
		wantCode(t, "Bump", code, impl.OK)
		wantCurve(t, "Bump", bump, curveOf(oracleBump(place, width)))
		warmth := randomBetween(r, -1, 1)
		light, code := impl.LightOf(warmth)
		wantCode(t, "LightOf", code, impl.OK)
		wantCurve(t, "LightOf", light, curveOf(oracleLight(warmth)))
	}
	for i, want := range oracleObservers() {
		wantCurve(t, "Observers", impl.Observers()[i], curveOf(want))
	}
}

func TestP1RoundingOfColours(t *testing.T) {
	r := newRandom(5)
	for range 300 {
		light, c := randomCurve(r, 0, 2), randomCurve(r, -1, 2)
		seen, code := impl.SeenUnder(light, c)
		wantCode(t, "SeenUnder", code, impl.OK)
		want := oracleSeen(numbersOf(light), numbersOf(c))
		wantThree(t, "SeenUnder", seen, want)
		look, code := impl.LookOf(seen)
		wantCode(t, "LookOf", code, impl.OK)
		wantThree(t, "LookOf", look, oracleLook(want))
		under, code := impl.LookUnder(light, c)
		wantCode(t, "LookUnder", code, impl.OK)
		wantThree(t, "LookUnder", under, look)
		other := impl.Three{randomBetween(r, 0, 100), randomBetween(r, -90, 90), randomBetween(r, -90, 90)}
		wantNumber(t, "DistanceOf", impl.DistanceOf(look, other), oracleDistance(look, other))
		wantNumber(t, "DifferenceOf", impl.DifferenceOf(look, other), oracleDifference(look, other))
		wantNumber(t, "DifferenceOf", impl.DifferenceOf(other, look), oracleDifference(other, look))
	}
}

func TestP1RoundingOfRootsAndPowers(t *testing.T) {
	r := newRandom(6)
	for range 3000 {
		a := math.Float32frombits(r.Uint32())
		if !finite(a) {
			continue
		}
		root, code := impl.CubeRoot(a)
		wantCode(t, "CubeRoot", code, impl.OK)
		wantNumber(t, "CubeRoot", root, oracleCubeRoot(a))
		a = float32(math.Abs(float64(a)))
		exponent := randomBetween(r, 0, 16)
		if r.IntN(2) == 0 {
			exponent = randomBetween(r, 0, 1)
		}
		if a != 0 {
			power, code := impl.PowerOf(a, exponent)
			want, wanted := oraclePower(a, exponent)
			wantCode(t, "PowerOf", code, wanted)
			wantNumber(t, "PowerOf", power, want)
		}
	}
}

// The logarithm and the root are wide inside: numbers near 1 tell wide from narrow most clearly.
func TestP1WideInside(t *testing.T) {
	r := newRandom(7)
	for range 3000 {
		a, exponent := randomBetween(r, 0.5, 2.5), randomBetween(r, 0, 16)
		power, code := impl.PowerOf(a, exponent)
		want, wanted := oraclePower(a, exponent)
		wantCode(t, "PowerOf", code, wanted)
		wantNumber(t, "PowerOf", power, want)
		exact := math.Pow(float64(a), float64(exponent))
		if !near(float64(power), exact, exact*1e-7) {
			t.Errorf("PowerOf(%v, %v): got %v, nearly %v", a, exponent, power, exact)
		}
		root, _ := impl.CubeRoot(a)
		wantNumber(t, "CubeRoot", root, float32(math.Cbrt(float64(a))))
	}
}

// One step less, or roots begun elsewhere, would have other results for these numbers.
func TestP1StepsOfRootsAndPowers(t *testing.T) {
	for _, bits := range []uint32{0x40cac367, 0x40d84187, 0x40e9ad57} {
		a := math.Float32frombits(bits)
		root, _ := impl.CubeRoot(a)
		wantNumber(t, "CubeRoot", root, oracleCubeRoot(a))
	}
	for _, bits := range [][2]uint32{{0x41f7bda4, 0x415147b2}, {0x41a92133, 0x410d8e45}, {0x42d12741, 0x3faad443}, {0x41c052dc, 0x3fc29606}, {0x3ccdeef4, 0x412f41af}} {
		a, exponent := math.Float32frombits(bits[0]), math.Float32frombits(bits[1])
		power, _ := impl.PowerOf(a, exponent)
		want, _ := oraclePower(a, exponent)
		wantNumber(t, "PowerOf", power, want)
	}
}

func finite(a float32) bool { return !math.IsNaN(float64(a)) && !math.IsInf(float64(a), 0) }

// A product is rounded before it is added: fused or wide, this would be 2 to the power -24.
func TestP1ProductsAreRoundedFirst(t *testing.T) {
	c := impl.Curve{1 + 0x1p-12, 1 + 0x1p-11}
	d := impl.Curve{1 + 0x1p-12, -1}
	wantNumber(t, "DotOfCurves", impl.DotOfCurves(c, d), 0)
	d = impl.Curve{-1, 1 + 0x1p-12}
	wantNumber(t, "DotOfCurves, the other way round", impl.DotOfCurves(impl.Curve{1 + 0x1p-11, 1 + 0x1p-12}, d), 0)
	x, y := impl.FlatCurve(1+0x1p-12), impl.FlatCurve(1+0x1p-11)
	wantCurve(t, "MixCurves", impl.MixCurves(impl.FlatCurve(0.5), x, 1+0x1p-12), impl.AddCurves(impl.FlatCurve(-0x1p-13), y))
}

// Sums go from left to right and stay narrow.
func TestP1OrderOfSums(t *testing.T) {
	ones := impl.FlatCurve(1)
	wantNumber(t, "a great number first", impl.SumOfCurve(flatBut(1, 0, 0x1p24)), 0x1p24)
	wantNumber(t, "a great number last", impl.SumOfCurve(flatBut(1, 15, 0x1p24)), 0x1p24+16)
	wantNumber(t, "a great number in a dot, first", impl.DotOfCurves(flatBut(1, 0, 0x1p24), ones), 0x1p24)
	wantNumber(t, "a great number in a dot, last", impl.DotOfCurves(ones, flatBut(1, 15, 0x1p24)), 0x1p24+16)
	wantNumber(t, "too much on the way", impl.SumOfCurve(impl.Curve{largest, largest, -largest, -largest}), infinite)
	wantNumber(t, "in balance on the way", impl.SumOfCurve(impl.Curve{largest, -largest, largest, -largest}), 0)
	wantNumber(t, "DistanceOf", impl.DistanceOf(impl.Three{0x1p12, 1, 1}, impl.Three{}), 0x1p12)
	wantNumber(t, "DistanceOf, turned", impl.DistanceOf(impl.Three{1, 1, 0x1p12}, impl.Three{}), float32(math.Sqrt(0x1p24+2)))
}

func TestP1ZerosKeepTheirSigns(t *testing.T) {
	none := impl.FlatCurve(minus0)
	ones := impl.FlatCurve(1)
	wantNumber(t, "a sum of -0", impl.SumOfCurve(none), minus0)
	wantNumber(t, "a dot of -0", impl.DotOfCurves(none, ones), minus0)
	wantNumber(t, "a sum with one 0", impl.SumOfCurve(flatBut(minus0, 9, 0)), 0)
	wantCurve(t, "-0 and -0", impl.AddCurves(none, none), none)
	wantCurve(t, "-0 and 0", impl.AddCurves(none, impl.Curve{}), impl.Curve{})
	wantCurve(t, "-0 times 1", impl.ScaleCurve(none, 1), none)
	wantCurve(t, "0 times -1", impl.ScaleCurve(impl.Curve{}, -1), none)
	wantCurve(t, "-0 times -0", impl.MulCurves(none, none), impl.Curve{})
	wantCurve(t, "FlatCurve -0", impl.FlatCurve(minus0), impl.ScaleCurve(impl.Curve{}, -1))
	wantCurve(t, "MixCurves -0", impl.MixCurves(none, none, 0.5), none)
}

func TestP1InfiniteAndSubnormalNumbers(t *testing.T) {
	endless := impl.FlatCurve(infinite)
	wantCurve(t, "infinite less infinite", impl.AddCurves(endless, impl.FlatCurve(-infinite)), impl.FlatCurve(nan))
	wantCurve(t, "too much", impl.AddCurves(impl.FlatCurve(largest), impl.FlatCurve(largest)), endless)
	wantCurve(t, "0 times infinite", impl.ScaleCurve(endless, 0), impl.FlatCurve(nan))
	wantCurve(t, "infinite times -1", impl.ScaleCurve(endless, -1), impl.FlatCurve(-infinite))
	wantCurve(t, "a share of 0 of infinite", impl.MixCurves(impl.FlatCurve(1), endless, 0), impl.FlatCurve(nan))
	wantCurve(t, "a share of 1", impl.MixCurves(endless, impl.FlatCurve(1), 1), impl.FlatCurve(nan))
	wantCurve(t, "FlatCurve NaN", impl.FlatCurve(nan), impl.AddCurves(impl.Curve{}, impl.FlatCurve(nan)))
	wantCurve(t, "subnormal sums", impl.AddCurves(impl.FlatCurve(tiniest), impl.FlatCurve(2*tiniest)), impl.FlatCurve(3*tiniest))
	wantCurve(t, "half of the least, to even", impl.ScaleCurve(impl.FlatCurve(tiniest), 0.5), impl.Curve{})
	wantCurve(t, "half of three, to even", impl.ScaleCurve(impl.FlatCurve(3*tiniest), 0.5), impl.FlatCurve(2*tiniest))
	wantCurve(t, "less than nothing", impl.ScaleCurve(impl.FlatCurve(-tiniest), 0.25), impl.FlatCurve(minus0))
	wantNumber(t, "a subnormal sum", impl.SumOfCurve(impl.FlatCurve(tiniest)), 16*tiniest)
	wantNumber(t, "a sum with NaN", impl.SumOfCurve(flatBut(1, 8, nan)), nan)
	wantNumber(t, "a dot of 0 and infinite", impl.DotOfCurves(impl.Curve{}, flatBut(1, 8, infinite)), nan)
	wantNumber(t, "a distance without end", impl.DistanceOf(impl.Three{largest, 0, 0}, impl.Three{-largest, 0, 0}), infinite)
	wantNumber(t, "a distance of infinite numbers", impl.DistanceOf(impl.Three{infinite, 0, 0}, impl.Three{infinite, 0, 0}), nan)
	wantNumber(t, "a distance whose square is nothing", impl.DistanceOf(impl.Three{0, tiniest, 0}, impl.Three{}), 0)
	wantNumber(t, "a distance whose square is subnormal", impl.DistanceOf(impl.Three{0, 0x1p-74, 0}, impl.Three{}), 0x1p-74)
	wantNumber(t, "a difference with NaN", impl.DifferenceOf(impl.Three{nan, 0, 0}, impl.Three{}), nan)
	wantNumber(t, "a difference of endless colours", impl.DifferenceOf(impl.Three{0, 1e30, 0}, impl.Three{}), nan)
}
