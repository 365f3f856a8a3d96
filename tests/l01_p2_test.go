package tests

import (
	"math"
	"strings"
	"testing"

	"loop.example/g01213/impl"
)

// Whole numbers up to a thousand, and shares in sixteenths, are added and mixed without any rounding.
func TestP2SmallNumbersAreExact(t *testing.T) {
	r := newRandom(8)
	for range 300 {
		c, d := wholeCurve(r, 1000), wholeCurve(r, 1000)
		parts := r.IntN(17)
		var sum, product, mix, scaled impl.Curve
		total, dot := 0, 0
		for i := range c {
			a, b := int(c[i]), int(d[i])
			sum[i], product[i], scaled[i] = float32(a+b), float32(a*b), float32(a*parts)
			mix[i] = float32(a*(16-parts)+b*parts) / 16
			total += a
			dot += a * b
		}
		// A product of -1 and 0 is -0, so only the numbers are compared here.
		wantTrue(t, "AddCurves", impl.AddCurves(c, d) == sum)
		wantTrue(t, "MulCurves", impl.MulCurves(c, d) == product)
		wantTrue(t, "ScaleCurve", impl.ScaleCurve(c, float32(parts)) == scaled)
		wantTrue(t, "MixCurves", impl.MixCurves(c, d, float32(parts)/16) == mix)
		wantTrue(t, "SumOfCurve", impl.SumOfCurve(c) == float32(total))
		wantTrue(t, "DotOfCurves", impl.DotOfCurves(c, d) == float32(dot))
		wantTrue(t, "adding in any order", impl.AddCurves(c, d) == impl.AddCurves(d, c))
		wantTrue(t, "no share is the first curve", impl.MixCurves(c, d, 0) == c)
		wantTrue(t, "the whole share is the second curve", impl.MixCurves(c, d, 1) == d)
	}
	wantNumber(t, "more than the whole share", impl.MixCurves(impl.FlatCurve(2), impl.FlatCurve(4), 2)[0], 6)
	wantNumber(t, "less than no share", impl.MixCurves(impl.FlatCurve(2), impl.FlatCurve(4), -1)[15], 0)
}

func TestP2LeastAndGreatest(t *testing.T) {
	cases := []struct {
		name        string
		c           impl.Curve
		least, most float32
		at, where   int64
	}{
		{"flat", impl.FlatCurve(3), 3, 3, 0, 0},
		{"up and down", impl.Curve{5, 1, 7, 1, 7, 2, 2, 2, 2, 2, 2, 2, 2, 2, 2, 2}, 1, 7, 1, 2},
		{"at the end", flatBut(0, 15, -1), -1, 0, 15, 0},
		{"greatest at the end", flatBut(0, 15, 1), 0, 1, 0, 15},
		{"0 before -0", flatBut(minus0, 0, 0), 0, 0, 0, 0},
		{"-0 before 0", flatBut(0, 0, minus0), minus0, minus0, 0, 0},
		{"only NaN", impl.FlatCurve(nan), nan, nan, 0, 0},
		{"NaN first", flatBut(4, 0, nan), 4, 4, 1, 1},
		{"one number at last", flatBut(nan, 15, -2), -2, -2, 15, 15},
		{"infinite beside NaN", flatBut(nan, 6, infinite), infinite, infinite, 6, 6},
		{"less than nothing beside NaN", flatBut(nan, 6, -infinite), -infinite, -infinite, 6, 6},
		{"both infinite", impl.Curve{0, nan, infinite, -infinite, infinite, -infinite}, -infinite, infinite, 3, 2},
		{"subnormal", flatBut(0, 4, -tiniest), -tiniest, 0, 4, 0},
	}
	for _, x := range cases {
		least, at := impl.LeastOf(x.c)
		most, where := impl.GreatestOf(x.c)
		wantNumber(t, x.name+": LeastOf", least, x.least)
		wantNumber(t, x.name+": GreatestOf", most, x.most)
		if at != x.at || where != x.where {
			t.Errorf("%s: got the indices %d and %d, want %d and %d", x.name, at, where, x.at, x.where)
		}
	}
}

func TestP2NumbersAreReadFromTheirTexts(t *testing.T) {
	texts := map[string]float32{
		"00000000": 0, "80000000": minus0, "3f800000": 1, "bf800000": -1, "40490fdb": 3.1415927,
		"00000001": tiniest, "80000001": -tiniest, "007fffff": 0x1p-126 - 0x1p-149, "00800000": 0x1p-126,
		"7f7fffff": largest, "ff7fffff": -largest, "7f800000": infinite, "ff800000": -infinite, "7fc00000": nan,
		"3dcccccd": 0.1, "0000abcd": 0xabcd * 0x1p-149,
	}
	for text, a := range texts {
		if got := impl.NumberText(a); got != text {
			t.Errorf("NumberText(%v): got %q, want %q", a, got, text)
		}
		got, code := impl.ReadNumber(text)
		wantCode(t, "ReadNumber "+text, code, impl.OK)
		wantNumber(t, "ReadNumber "+text, got, a)
	}
	for _, bits := range []uint32{0x7f800001, 0x7fc00001, 0x7fffffff, 0xff800001, 0xffc00000, 0xffffffff} {
		if got := impl.NumberText(math.Float32frombits(bits)); got != "7fc00000" {
			t.Errorf("the text of NaN with the bits %08x: got %q", bits, got)
		}
	}
	r := newRandom(9)
	for range 5000 {
		a := math.Float32frombits(r.Uint32() >> r.IntN(32))
		got, code := impl.ReadNumber(impl.NumberText(a))
		wantCode(t, "ReadNumber of NumberText", code, impl.OK)
		wantNumber(t, "ReadNumber of NumberText", got, a)
	}
}

func TestP2TextsOfNoNumber(t *testing.T) {
	texts := []string{
		"", "0", "3f80000", "3f8000000", "03f800000", "3F800000", "3f80000g", "3f80000G", "-f800000", "+f800000", " 3f80000", "3f80000 ",
		"3f800000\n", "0x3f8000", "3f_80000", "3f8_0000", "3f 80000", "3f.80000", "3f80000\x00", "\x00\x00\x00\x00\x00\x00\x00\x00", "1", "NaN", "infinite",
		"7fc00001", "7f800001", "7fffffff", "ffc00000", "ff800001", "ffffffff", "7FC00000", "7fC00000", "é3f8000", "３f8000", "\xff3f80000",
		strings.Repeat("0", 1000),
	}
	for _, text := range texts {
		a, code := impl.ReadNumber(text)
		if code != impl.ErrSyntax || !same(a, 0) {
			t.Errorf("ReadNumber(%q): got %v and the code %d", text, a, code)
		}
	}
	// Any other byte in place of a digit.
	for i := range 8 {
		for b := range 256 {
			text := []byte("3f0a0c1d")
			text[i] = byte(b)
			_, code := impl.ReadNumber(string(text))
			good := b >= '0' && b <= '9' || b >= 'a' && b <= 'f'
			if good != (code == impl.OK) {
				t.Errorf("ReadNumber(%q): got the code %d", text, code)
			}
		}
	}
}

func TestP2CurvesAreReadFromTheirTexts(t *testing.T) {
	want := strings.Repeat("3f800000 ", 15) + "c0000000"
	if got := impl.CurveText(flatBut(1, 15, -2)); got != want {
		t.Errorf("CurveText: got %q, want %q", got, want)
	}
	r := newRandom(10)
	for range 500 {
		c := anyCurve(r)
		text := impl.CurveText(c)
		got, code := impl.ReadCurve(text)
		wantCode(t, "ReadCurve of CurveText", code, impl.OK)
		wantCurve(t, "ReadCurve of CurveText", got, c)
		words := strings.Split(text, " ")
		for i, word := range words {
			if word != impl.NumberText(c[i]) {
				t.Errorf("CurveText: the number %d is %q", i, word)
			}
		}
	}
}

func TestP2TextsOfNoCurve(t *testing.T) {
	one := "3f800000"
	text := impl.CurveText(impl.FlatCurve(1))
	texts := []string{
		"", one, " ", text + " ", " " + text, text + "\n", text + " " + one, text[9:], text[:len(text)-1], text + "0",
		strings.ReplaceAll(text, " ", "  "), strings.ReplaceAll(text, " ", "\t"), strings.ReplaceAll(text, " ", "\n"), strings.ReplaceAll(text, " ", ""),
		strings.Replace(text, " ", "\t", 1), strings.Replace(text, " ", "0", 1), strings.Replace(text, one, "3f80000 ", 1),
		strings.ToUpper(text), text[:len(text)-8] + "7fc00001", "7f800001" + text[8:], text[:len(text)-8] + "3f80000g",
		text[:63] + "g" + text[64:], strings.Repeat(" ", 143), strings.Repeat("0", 143), strings.Repeat(" ", 1000000),
	}
	for _, bad := range texts {
		c, code := impl.ReadCurve(bad)
		if code != impl.ErrSyntax || !sameCurve(c, impl.Curve{}) {
			t.Errorf("ReadCurve(%.200q): got %v and the code %d", bad, c, code)
		}
	}
	for i := range 16 {
		bad := text[:9*i] + "ffc00000" + text[9*i+8:]
		c, code := impl.ReadCurve(bad)
		if code != impl.ErrSyntax || !sameCurve(c, impl.Curve{}) {
			t.Errorf("ReadCurve with another NaN at %d: got %v and the code %d", i, c, code)
		}
	}
}

func TestP2CubeRoots(t *testing.T) {
	for _, a := range []float32{0, minus0} {
		root, code := impl.CubeRoot(a)
		wantCode(t, "CubeRoot of 0", code, impl.OK)
		wantNumber(t, "CubeRoot of 0", root, 0)
	}
	for n := 1; n <= 200; n++ {
		for _, by := range []float32{1, 0x1p-30, 0x1p-3, 0x1p45} {
			a, want := float32(n)*float32(n)*float32(n)*by, float32(n)*float32(math.Cbrt(float64(by)))
			root, code := impl.CubeRoot(a)
			wantCode(t, "CubeRoot of a cube", code, impl.OK)
			wantNumber(t, "CubeRoot of a cube", root, want)
			root, _ = impl.CubeRoot(-a)
			wantNumber(t, "CubeRoot of a cube less than 0", root, -want)
		}
	}
	ends := map[float32]float32{
		tiniest: float32(math.Cbrt(0x1p-149)), 0x1p-147: 0x1p-49, largest: float32(math.Cbrt(math.MaxFloat32)),
		8: 2, 1: 1, 0.125: 0.5, math.Nextafter32(8, 0): float32(math.Cbrt(float64(math.Nextafter32(8, 0)))),
		math.Nextafter32(1, 0): float32(math.Cbrt(float64(math.Nextafter32(1, 0)))),
	}
	for a, want := range ends {
		root, code := impl.CubeRoot(a)
		wantCode(t, "CubeRoot at an end", code, impl.OK)
		wantNumber(t, "CubeRoot at an end", root, want)
	}
}

func TestP2PowersAtTheEnds(t *testing.T) {
	down := func(a float32) float32 { return math.Nextafter32(a, 0) }
	cases := []struct{ a, exponent, want float32 }{
		{0, 0, 0}, {minus0, 0, 0}, {0, 16, 0}, {minus0, 1, 0}, {0, minus0, 0},
		{1, 0, 1}, {7, 0, 1}, {7, minus0, 1}, {tiniest, 0, 1}, {largest, 0, 1}, {largest, minus0, 1}, {0.3, 0, 1}, {7, tiniest, 1}, {0.3, tiniest, 1},
		{1, 16, 1}, {2, 16, 65536}, {0.5, 16, 0x1p-16}, {2, down(16), 65535.957},
		{0x1p120, 1, 0x1p120}, {0x1p60, 2, 0x1p120}, {0x1p15, 8, 0x1p120}, {0x1p127, 0.5, float32(math.Sqrt(0x1p127))},
		{0x1p-120, 1, 0x1p-120}, {0x1p-60, 2, 0x1p-120}, {0x1p-15, 8, 0x1p-120},
		{down(0x1p-120), 1, 0}, {0x1p-121, 1, 0}, {0x1p-61, 2, 0}, {0x1p-8, 16, 0}, {tiniest, 1, 0}, {tiniest, 16, 0},
		{0x1p-148, 0.5, 0x1p-74}, {tiniest, 0.5, float32(math.Sqrt(0x1p-149))}, {0x1p-128, 0.5, 0x1p-64},
	}
	for _, x := range cases {
		power, code := impl.PowerOf(x.a, x.exponent)
		if code != impl.OK || !same(power, x.want) {
			t.Errorf("PowerOf(%v, %v): got %v and the code %d, want %v", x.a, x.exponent, power, code, x.want)
		}
	}
}

// Roots and powers fit together.
func TestP2RootsOfPowers(t *testing.T) {
	r := newRandom(11)
	for range 2000 {
		a := float32(math.Exp2(float64(randomBetween(r, -35, 35))))
		by := float64(a) * 1e-6
		cube, one := impl.PowerOf(a, 3)
		root, two := impl.CubeRoot(cube)
		other, three := impl.CubeRoot(a)
		back, four := impl.PowerOf(other, 3)
		third, five := impl.PowerOf(a, 1.0/3)
		itself, six := impl.PowerOf(a, 1)
		half, seven := impl.PowerOf(a, 0.5)
		if one+two+three+four+five+six+seven != impl.OK {
			t.Fatalf("roots and powers of %v have errors", a)
		}
		wantTrue(t, "the root of the third power", near(float64(root), float64(a), by))
		wantTrue(t, "the third power of the root", near(float64(back), float64(a), by))
		wantTrue(t, "the power of a third", near(float64(third), float64(other), float64(other)*2e-6))
		wantTrue(t, "the first power", near(float64(itself), float64(a), by))
		wantTrue(t, "the square of the power of a half", near(float64(half)*float64(half), float64(a), by))
		minus, _ := impl.CubeRoot(-a)
		wantNumber(t, "the root of less than 0", minus, -other)
		eight, _ := impl.CubeRoot(8 * a)
		wantNumber(t, "the root of eight times as much", eight, 2*other)
	}
}
