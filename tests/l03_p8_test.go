package tests

import (
	"testing"

	"loop.example/g01213/impl"
)

// Behind one pigment, parts of 0 change nothing, but for the sign of -0.
func TestP8AMixtureOfOnePigmentIsThePigment(t *testing.T) {
	r := newRandom(141)
	for range 100 {
		count := 1 + r.IntN(impl.MaxPigments)
		x := randomShelf(r, count)
		for i, p := range x.Pigments {
			var d impl.Drops
			var parts impl.Parts
			d[i], parts[i] = int16(1+r.IntN(impl.MaxDrops)), 1
			alone := impl.Layer{K: p.K, S: p.S, Thick: 1}
			wantLayer(t, "MixDrops of one pigment", mixDrops(t, x, d), alone)
			wantLayer(t, "MixParts of one pigment", mixParts(t, x, parts), alone)
			thick, code := impl.ThickOf(p.K, p.S)
			wantCode(t, "ThickOf", code, impl.OK)
			wantCurve(t, "PaintOf one pigment", paintOf(t, x, d), thick)
			light := randomCurve(r, 0.1, 1)
			look, code := impl.LookOfDrops(x, d, light)
			wantCode(t, "LookOfDrops", code, impl.OK)
			wanted, code := impl.LookUnder(light, thick)
			wantCode(t, "LookUnder", code, impl.OK)
			wantThree(t, "LookOfDrops of one pigment", look, wanted)
			at, code := impl.NearestPigment(x, thick)
			wantFound(t, "NearestPigment to what a pigment reflects", at, code, int64(i))
		}
	}
}

func TestP8PaintsOfTheExample(t *testing.T) {
	x := twoShelf()
	wantCurve(t, "PaintOf white", paintOf(t, x, impl.Drops{5}), impl.FlatCurve(1))
	black := oracleReflected(1)
	wantCurve(t, "PaintOf black", paintOf(t, x, impl.Drops{0, 5}), impl.FlatCurve(black))
	wantCurve(t, "PaintOf both", paintOf(t, x, impl.Drops{3, 3}), impl.FlatCurve(oracleReflected(0.5)))
	light := impl.FlatCurve(1)
	look, code := impl.LookOfDrops(x, impl.Drops{1}, light)
	wantCode(t, "LookOfDrops white", code, impl.OK)
	wantTrue(t, "white is as light as can be", near(float64(look[0]), 100, 1e-3))
	// A pigment that scatters nothing reflects nothing; beside another one it is a pigment as others are.
	clear := shelfOf(flatPigment("dye", 2, 0, 1), flatPigment("white", 0, 1, 1), flatPigment("water", 0, 0, 1), flatPigment("ice", minus0, minus0, 1))
	wantCurve(t, "PaintOf what scatters nothing", paintOf(t, clear, impl.Drops{4}), impl.Curve{})
	wantCurve(t, "PaintOf what does nothing", paintOf(t, clear, impl.Drops{0, 0, 4}), impl.Curve{})
	wantCurve(t, "PaintOf what does nothing, with -0", paintOf(t, clear, impl.Drops{0, 0, 1, 4}), impl.Curve{})
	wantCurve(t, "PaintOf white with what scatters nothing", paintOf(t, clear, impl.Drops{1, 1}), impl.FlatCurve(oracleReflected(2)))
	wantCurve(t, "PaintOf white with what does nothing", paintOf(t, clear, impl.Drops{0, 1, 999}), impl.FlatCurve(1))
	look, code = impl.LookOfDrops(clear, impl.Drops{1}, light)
	wantCode(t, "LookOfDrops of what reflects nothing", code, impl.OK)
	wantThree(t, "LookOfDrops of what reflects nothing", look, impl.Three{-16, 0, 0})
}

func TestP8PartsNeedNoTotal(t *testing.T) {
	x := twoShelf()
	for _, n := range []float32{0, minus0} {
		got := mixParts(t, x, impl.Parts{n, n})
		wantTrue(t, "a mixture of nothing is nothing", got == flatLayer(0, 0, 1))
	}
	wantLayer(t, "MixParts of many parts", mixParts(t, x, impl.Parts{2, 3}), flatLayer(3, 5, 1))
	wantLayer(t, "MixParts of few parts", mixParts(t, x, impl.Parts{tiniest, 2 * tiniest}), flatLayer(2*tiniest, 3*tiniest, 1))
	wantLayer(t, "MixParts of one pigment", mixParts(t, shelfOf(flatPigment("a", 3, 2, 1)), impl.Parts{0.5}), flatLayer(1.5, 1, 1))
	six := fullShelf()
	wantLayer(t, "MixParts of six pigments", mixParts(t, six, impl.Parts{1, 2, 4, 8, 16, 32}), flatLayer(0+2+2+2+48+64, 1+2+8+0+64+16, 1))
}

// A ladder leads from one pigment to the other one; what both reflect lies at its ends.
func TestP8Ladders(t *testing.T) {
	r := newRandom(142)
	for _, steps := range []int64{1, 2, 3, 7, impl.MaxSteps - 1, impl.MaxSteps} {
		x := randomShelf(r, impl.MaxPigments)
		for a := range int64(impl.MaxPigments) {
			b := (a + 1 + steps%5) % impl.MaxPigments
			ladder, code := impl.LadderOf(x, a, b, steps)
			wantCode(t, "LadderOf", code, impl.OK)
			want(t, "the length of a ladder", int64(len(ladder)), steps+1)
			for i, rung := range ladder {
				var d impl.Drops
				d[a], d[b] = int16(steps)-int16(i), int16(i)
				wantCurve(t, "a rung", rung, paintOf(t, x, d))
			}
			turned, code := impl.LadderOf(x, b, a, steps)
			wantCode(t, "LadderOf turned", code, impl.OK)
			for i, rung := range turned {
				wantCurve(t, "a rung of a ladder that is turned", rung, ladder[len(ladder)-1-i])
			}
		}
	}
	ladder, code := impl.LadderOf(twoShelf(), 0, 1, 1)
	wantCode(t, "LadderOf one step", code, impl.OK)
	wantCurve(t, "the first end", ladder[0], impl.FlatCurve(1))
	wantCurve(t, "the last end", ladder[1], impl.FlatCurve(oracleReflected(1)))
}

func TestP8TheFirstOfSeveralIsNearest(t *testing.T) {
	twin := func(name string) impl.Pigment { return flatPigment(name, 1, 1, 1) }
	cases := []struct {
		name   string
		x      impl.Shelf
		c      impl.Curve
		wanted int64
	}{
		{"one pigment", shelfOf(twin("a")), impl.FlatCurve(-5), 0},
		{"equal pigments", shelfOf(twin("a"), twin("b"), twin("c")), impl.FlatCurve(0.3), 0},
		{"equal pigments behind another one", shelfOf(flatPigment("a", 0, 1, 1), twin("b"), twin("c")), impl.FlatCurve(0.3), 1},
		{"as far above as below", shelfOf(flatPigment("a", 0, 1, 1), flatPigment("b", 1, 0, 1)), impl.FlatCurve(0.5), 0},
		{"as far below as above", shelfOf(flatPigment("b", 1, 0, 1), flatPigment("a", 0, 1, 1)), impl.FlatCurve(0.5), 0},
		{"a little nearer to the second", shelfOf(flatPigment("a", 0, 1, 1), flatPigment("b", 1, 0, 1)), impl.FlatCurve(0.4999), 1},
		{"what scatters nothing is black", shelfOf(twin("a"), flatPigment("b", 0, 0, 1)), impl.FlatCurve(-1), 1},
		{"the last of six", fullShelf(), impl.FlatCurve(oracleReflected(4)), 5},
		{"far away", twoShelf(), impl.FlatCurve(-1e18), 0},
		{"other numbers than shares", twoShelf(), impl.FlatCurve(-3), 1},
		{"squares, not differences", shelfOf(flatPigment("a", 1, 0, 1), flatPigment("b", 0, 1, 1)), flatBut(0.4, 3, 3.5), 1},
	}
	for _, c := range cases {
		at, code := impl.NearestPigment(c.x, c.c)
		wantFound(t, "NearestPigment, "+c.name, at, code, c.wanted)
	}
}
