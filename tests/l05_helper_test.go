package tests

import (
	"math"
	"math/rand/v2"
	"testing"

	"loop.example/g01213/impl"
)

func flatPress(paper, gain float32, inks ...float32) impl.Press {
	p := impl.Press{Paper: impl.FlatCurve(paper), Gain: gain}
	for i, ink := range inks {
		p.Inks[i] = impl.FlatCurve(ink)
	}
	return p
}

// colourPress has a yellow, a red, a blue and a black ink, on a paper that is nearly white.
func colourPress() impl.Press {
	p := flatPress(0.875, 0.25, 1, 1, 1, 0.0625)
	for i := range 16 {
		switch {
		case i < 5:
			p.Inks[0][i] = 0.125
		case i < 10:
			p.Inks[1][i] = 0.25
		default:
			p.Inks[2][i] = 0.1875
		}
	}
	return p
}

func randomPress(r *rand.Rand) impl.Press {
	p := impl.Press{Paper: randomCurve(r, 0.2, 1), Gain: randomBetween(r, 0, 1)}
	for i := range p.Inks {
		p.Inks[i] = randomCurve(r, 0, 1)
	}
	return p
}

// edgeShares are shares at the edges, or hardly shares.
func edgeShares() []float32 {
	return []float32{0, minus0, 1, tiniest, 0x1p-126, 0x1p-24, 0.5, math.Nextafter32(1, 0)}
}

func edgeCurve(r *rand.Rand) impl.Curve {
	list := edgeShares()
	var c impl.Curve
	for i := range c {
		c[i] = list[r.IntN(len(list))]
	}
	return c
}

func edgePress(r *rand.Rand) impl.Press {
	p := impl.Press{Paper: edgeCurve(r), Gain: edgeCurve(r)[0]}
	for i := range p.Inks {
		p.Inks[i] = edgeCurve(r)
	}
	return p
}

func randomCover(r *rand.Rand) impl.Cover {
	var c impl.Cover
	for i := range c {
		c[i] = randomBetween(r, 0, 1)
	}
	return c
}

func edgeCover(r *rand.Rand) impl.Cover {
	c := edgeCurve(r)
	return impl.Cover(c[:4])
}

// someCovers are ordinary covers, covers at the edges, and covers of both kinds of numbers.
func someCovers(r *rand.Rand, count int) []impl.Cover {
	list := []impl.Cover{{}, {1, 1, 1, 1}, {minus0, minus0, minus0, minus0}, {0, 0, 0, 1}, {1, 0, 0, 0}}
	for range count {
		mixed := randomCover(r)
		mixed[r.IntN(4)] = edgeCover(r)[0]
		list = append(list, randomCover(r), edgeCover(r), mixed)
	}
	return list
}

type badPress struct {
	name  string
	press impl.Press
}

// notPresses are not valid by one number alone.
func notPresses() []badPress {
	var list []badPress
	for i := range 16 {
		for _, a := range notShares() {
			paper := colourPress()
			paper.Paper[i] = a
			list = append(list, badPress{"paper", paper})
			ink := colourPress()
			ink.Inks[i%4][i] = a
			list = append(list, badPress{"ink", ink})
		}
	}
	for _, a := range notShares() {
		gain := colourPress()
		gain.Gain = a
		list = append(list, badPress{"gain", gain})
	}
	return list
}

// notCovers are not valid by one number alone.
func notCovers() []impl.Cover {
	var list []impl.Cover
	for i := range 4 {
		for _, a := range notShares() {
			c := impl.Cover{0.25, 0.5, 0, 1}
			c[i] = a
			list = append(list, c)
		}
	}
	return list
}

// farNumbers are far from all numbers of keys, inks, places and levels, also where only a part of their bits is looked at.
func farNumbers() []int64 {
	return []int64{-1, -2, 17, 100, 1 << 8, 1 << 16, 1 << 32, 1<<32 + 1, math.MinInt64, math.MinInt64 + 1, math.MaxInt64}
}

func anyTile(r *rand.Rand) impl.Tile {
	var t impl.Tile
	for row := range t {
		for column := range t[row] {
			t[row][column] = r.IntN(2) == 1
		}
	}
	return t
}

func sameCover(c, d impl.Cover) bool {
	return same(c[0], d[0]) && same(c[1], d[1]) && same(c[2], d[2]) && same(c[3], d[3])
}

func wantCover(t *testing.T, name string, got impl.Cover, code int64, wanted impl.Cover) {
	t.Helper()
	wantCode(t, name, code, impl.OK)
	if !sameCover(got, wanted) {
		t.Errorf("%s: got %v, want %v", name, got, wanted)
	}
}

func samePress(p, q impl.Press) bool {
	for i := range p.Inks {
		if !sameCurve(p.Inks[i], q.Inks[i]) {
			return false
		}
	}
	return sameCurve(p.Paper, q.Paper) && same(p.Gain, q.Gain)
}

func keyOf(t *testing.T, n int64) impl.Key {
	t.Helper()
	k, code := impl.KeyOf(n)
	wantCode(t, "KeyOf", code, impl.OK)
	return k
}

func overprintOf(t *testing.T, p impl.Press, k impl.Key) impl.Curve {
	t.Helper()
	c, code := impl.OverprintOf(p, k)
	wantCode(t, "OverprintOf", code, impl.OK)
	return c
}

func gainAt(t *testing.T, gain, a float32) float32 {
	t.Helper()
	grown, code := impl.GainAt(gain, a)
	wantCode(t, "GainAt", code, impl.OK)
	return grown
}

func printedCurve(t *testing.T, p impl.Press, c impl.Cover) impl.Curve {
	t.Helper()
	printed, code := impl.PrintedCurve(p, c)
	wantCode(t, "PrintedCurve", code, impl.OK)
	return printed
}

func printedLook(t *testing.T, p impl.Press, c impl.Cover, light impl.Curve) impl.Three {
	t.Helper()
	look, code := impl.PrintedLook(p, c, light)
	wantCode(t, "PrintedLook", code, impl.OK)
	return look
}

func inkIn(t *testing.T, c impl.Cover) float32 {
	t.Helper()
	ink, code := impl.InkIn(c)
	wantCode(t, "InkIn", code, impl.OK)
	return ink
}

func limitInk(t *testing.T, c impl.Cover, limit float32) impl.Cover {
	t.Helper()
	less, code := impl.LimitInk(c, limit)
	wantCode(t, "LimitInk", code, impl.OK)
	return less
}

func tileOf(t *testing.T, level int64) impl.Tile {
	t.Helper()
	tile, code := impl.TileOf(level)
	wantCode(t, "TileOf", code, impl.OK)
	return tile
}

func tileCurve(t *testing.T, p impl.Press, tiles [4]impl.Tile) impl.Curve {
	t.Helper()
	c, code := impl.TileCurve(p, tiles)
	wantCode(t, "TileCurve", code, impl.OK)
	return c
}
