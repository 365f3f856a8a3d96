package tests

import (
	"math"
	"slices"
	"testing"

	"loop.example/g01213/impl"
)

func TestP1LimitsOfPrinting(t *testing.T) {
	want(t, "MaxGrid", impl.MaxGrid, 6)
}

func TestP1ValidPresses(t *testing.T) {
	r := newRandom(511)
	for range 100 {
		wantTrue(t, "ValidPress", impl.ValidPress(randomPress(r)) && impl.ValidPress(edgePress(r)))
	}
	for _, gain := range edgeShares() {
		wantTrue(t, "ValidPress with a gain at the edge", impl.ValidPress(flatPress(gain, gain, gain, gain, gain, gain)))
	}
	wantTrue(t, "a press of nothing is valid", impl.ValidPress(impl.Press{}))
	for _, bad := range notPresses() {
		wantTrue(t, "ValidPress, "+bad.name, !impl.ValidPress(bad.press))
	}
	for i := range 16 { // each ink at each wavelength
		for ink := range 4 {
			p := colourPress()
			p.Inks[ink][i] = nan
			wantTrue(t, "ValidPress with an ink that is NaN", !impl.ValidPress(p))
		}
	}
}

func TestP1ValidCovers(t *testing.T) {
	r := newRandom(512)
	for _, c := range someCovers(r, 100) {
		wantTrue(t, "ValidCover", impl.ValidCover(c))
	}
	for _, c := range notCovers() {
		wantTrue(t, "ValidCover", !impl.ValidCover(c))
	}
}

func TestP1SamePresses(t *testing.T) {
	r := newRandom(513)
	anyPress := func() impl.Press {
		p := impl.Press{Paper: anyCurve(r), Gain: anyCurve(r)[0]}
		for i := range p.Inks {
			p.Inks[i] = anyCurve(r)
		}
		return p
	}
	otherNaN := math.Float32frombits(0xffc00001)
	for range 100 {
		p := anyPress()
		wantTrue(t, "a press is the same as itself", impl.SamePress(p, p))
		wantTrue(t, "another press", !impl.SamePress(p, anyPress()))
	}
	for i := range 16 {
		for _, pair := range [][2]float32{{0, minus0}, {0, nan}, {nan, 0}, {0.5, 0.25}, {nan, otherNaN}, {minus0, minus0}, {infinite, -infinite}} {
			var presses [3][2]impl.Press
			for j, a := range pair {
				presses[0][j].Paper[i] = a
				presses[1][j].Inks[i%4][i] = a
				presses[2][j].Gain = a
			}
			for _, both := range presses {
				want(t, "SamePress", impl.SamePress(both[0], both[1]), same(pair[0], pair[1]))
			}
		}
	}
}

// wantInvalidPrint asks for ErrInvalid wherever a press and a cover are used.
func wantInvalidPrint(t *testing.T, name string, p impl.Press, c impl.Cover) {
	t.Helper()
	grown, code := impl.CoverWithGain(p, c)
	wantNone(t, "CoverWithGain, "+name, grown, code, impl.ErrInvalid)
	printed, code := impl.PrintedCurve(p, c)
	wantNone(t, "PrintedCurve, "+name, printed, code, impl.ErrInvalid)
	for _, light := range []impl.Curve{impl.FlatCurve(1), {}, impl.FlatCurve(nan)} {
		look, code := impl.PrintedLook(p, c, light)
		wantNone(t, "PrintedLook, "+name, look, code, impl.ErrInvalid)
	}
}

func TestP1PressesThatAreNotValid(t *testing.T) {
	for _, bad := range notPresses() {
		wantInvalidPrint(t, bad.name, bad.press, impl.Cover{0.5, 0.5, 0.5, 0.5})
		wantInvalidPrint(t, bad.name, bad.press, impl.Cover{2})
		for _, k := range []impl.Key{{}, {true, true, true, true}} {
			c, code := impl.OverprintOf(bad.press, k)
			wantNone(t, "OverprintOf, "+bad.name, c, code, impl.ErrInvalid)
		}
		for _, tiles := range [][4]impl.Tile{{}, {{{true}}}} {
			c, code := impl.TileCurve(bad.press, tiles)
			wantNone(t, "TileCurve, "+bad.name, c, code, impl.ErrInvalid)
		}
		for _, n := range []int64{-1, 0, 1, 3, 4, 6, 7} {
			for _, a := range []float32{4, nan, -1} {
				c, off, code := impl.BestCover(bad.press, impl.FlatCurve(a), impl.Three{}, n, a)
				wantNone(t, "BestCover, "+bad.name, c, code, impl.ErrInvalid)
				wantNumber(t, "BestCover, off, "+bad.name, off, 0)
				seen, code := impl.CoverSeen(bad.press, n, impl.FlatCurve(a))
				wantNone(t, "CoverSeen, "+bad.name, seen, code, impl.ErrInvalid)
			}
		}
		want(t, "PressText, "+bad.name, impl.PressText(bad.press), "")
	}
}

func TestP1CoversThatAreNotValid(t *testing.T) {
	for _, c := range notCovers() {
		wantInvalidPrint(t, "a cover", colourPress(), c)
		areas, code := impl.AreasOf(c)
		wantNone(t, "AreasOf", areas, code, impl.ErrInvalid)
		ink, code := impl.InkIn(c)
		wantNone(t, "InkIn", ink, code, impl.ErrInvalid)
		tiles, code := impl.TilesOf(c)
		wantNone(t, "TilesOf", tiles, code, impl.ErrInvalid)
		for _, a := range []float32{0, 0.5, 1, 4, 5, -1, nan, infinite} {
			less, code := impl.LimitInk(c, a)
			wantNone(t, "LimitInk", less, code, impl.ErrInvalid)
			under, code := impl.PutBlackUnder(c, a)
			wantNone(t, "PutBlackUnder", under, code, impl.ErrInvalid)
		}
	}
}

func TestP1NumbersOutOfRange(t *testing.T) {
	for _, n := range append(farNumbers(), 16, 4) {
		if n != 4 {
			k, code := impl.KeyOf(n)
			wantNone(t, "KeyOf", k, code, impl.ErrRange)
		}
		if n != 16 && n != 4 {
			tile, code := impl.TileOf(n)
			wantNone(t, "TileOf", tile, code, impl.ErrRange)
		}
		for _, other := range []int64{0, 3, n} {
			number, code := impl.PlaceNumber(n, other)
			wantNone(t, "PlaceNumber, the row", number, code, impl.ErrRange)
			number, code = impl.PlaceNumber(other, n)
			wantNone(t, "PlaceNumber, the column", number, code, impl.ErrRange)
		}
		for _, p := range []impl.Press{colourPress(), flatPress(1, 1, 1, 1, 1, 1)} { // the second one divides by 0
			for _, a := range []float32{0.5, nan} {
				seen, code := impl.CoverSeen(p, n, impl.FlatCurve(a))
				wantNone(t, "CoverSeen, the ink", seen, code, impl.ErrRange)
			}
		}
	}
}

func TestP1SharesOutOfRange(t *testing.T) {
	for _, a := range notShares() {
		for _, other := range []float32{0, 0.5, 1, a} {
			for _, both := range [][2]float32{{a, other}, {other, a}} {
				grown, code := impl.GainAt(both[0], both[1])
				wantNone(t, "GainAt", grown, code, impl.ErrRange)
				before, code := impl.CoverBefore(both[0], both[1])
				wantNone(t, "CoverBefore", before, code, impl.ErrRange)
			}
		}
		for _, c := range []impl.Cover{{}, {0.25, 0.5, 0.75, 1}} {
			under, code := impl.PutBlackUnder(c, a)
			wantNone(t, "PutBlackUnder", under, code, impl.ErrRange)
		}
	}
	for _, limit := range append(notAmounts(), math.Nextafter32(4, 5), 5, largest) {
		for _, c := range []impl.Cover{{}, {0.25, 0.5, 0.75, 1}} {
			less, code := impl.LimitInk(c, limit)
			wantNone(t, "LimitInk", less, code, impl.ErrRange)
		}
	}
}

func TestP1ErrorsOfBestCovers(t *testing.T) {
	p, light := colourPress(), impl.FlatCurve(1)
	none := func(name string, light impl.Curve, look impl.Three, grid int64, limit float32, wanted int64) {
		t.Helper()
		c, off, code := impl.BestCover(p, light, look, grid, limit)
		wantNone(t, "BestCover, "+name, c, code, wanted)
		wantNumber(t, "BestCover, off, "+name, off, 0)
	}
	for _, grid := range append(farNumbers(), 0, impl.MaxGrid+1) {
		for _, limit := range []float32{4, 0, -1, -infinite, nan} {
			none("such a grid", light, impl.Three{}, grid, limit, impl.ErrRange)
			none("such a grid, and no light", impl.Curve{}, impl.Three{}, grid, limit, impl.ErrRange)
		}
	}
	for grid := int64(1); grid <= impl.MaxGrid; grid++ {
		none("a limit that is NaN", light, impl.Three{}, grid, nan, impl.ErrRange)
		none("a limit that is NaN, and no light", impl.Curve{}, impl.Three{}, grid, math.Float32frombits(0xff800001), impl.ErrRange)
		for _, limit := range []float32{-tiniest, -1, -largest, -infinite} {
			none("a limit that is negative", light, impl.Three{}, grid, limit, impl.ErrNotFound)
		}
		for _, a := range []float32{0, minus0, nan, infinite, -infinite} {
			none("such a light", impl.FlatCurve(a), impl.Three{}, grid, infinite, impl.ErrNotFound)
		}
	}
	for i := range 3 {
		for _, a := range []float32{nan, infinite, -infinite, largest} {
			look := impl.Three{50, 0, 0}
			look[i] = a
			none("such a look", light, look, 2, infinite, impl.ErrNotFound)
		}
	}
	for _, limit := range []float32{infinite, largest, 4} {
		_, _, code := impl.BestCover(p, light, impl.Three{}, 1, limit)
		wantCode(t, "BestCover with a limit that is great", code, impl.OK)
	}
}

func TestP1ErrorsOfLights(t *testing.T) {
	for _, c := range []impl.Cover{{}, {0.25, 0.5, 0.75, 1}, {1, 1, 1, 1}} {
		for i := range 16 {
			for _, a := range []float32{nan, infinite, -infinite} {
				look, code := impl.PrintedLook(colourPress(), c, flatBut(1, i, a))
				wantNone(t, "PrintedLook under such a light", look, code, impl.ErrState)
			}
		}
		for _, a := range []float32{0, minus0, nan, infinite, -infinite} {
			look, code := impl.PrintedLook(colourPress(), c, impl.FlatCurve(a))
			wantNone(t, "PrintedLook under such a light", look, code, impl.ErrState)
		}
	}
}

func TestP1ErrorsOfCoversSeen(t *testing.T) {
	clear := flatPress(0.5, 1, 0.5, 1, 0.5, 1)
	clear.Inks[1] = flatBut(1, 3, math.Nextafter32(1, 0)) // so little that it is lost in the sum
	none := func(name string, p impl.Press, ink int64, measured impl.Curve) {
		t.Helper()
		seen, code := impl.CoverSeen(p, ink, measured)
		wantNone(t, "CoverSeen, "+name, seen, code, impl.ErrState)
	}
	for _, a := range []float32{0, 0.5, 1, nan, infinite, -infinite, largest} {
		none("an ink that takes no light away", clear, 3, impl.FlatCurve(a))
		none("an ink that takes hardly any light away", clear, 1, impl.FlatCurve(a))
		for ink := range int64(4) {
			none("no light on the paper", impl.Press{Gain: 1}, ink, impl.FlatCurve(a))
			none("no light on the paper, -0", flatPress(minus0, 0, 0.5, 0.5, minus0, 0), ink, impl.FlatCurve(a))
		}
	}
	for ink := range int64(4) {
		for i := range 16 {
			none("a measured number is NaN", colourPress(), ink, flatBut(0.5, i, nan))
			measured := flatBut(0.5, i, infinite)
			measured[(i+5)%16] = -infinite
			none("infinite numbers of both signs", colourPress(), ink, measured)
		}
	}
}

// Arguments of any kind have equal results, and none makes a function panic.
func TestP1EqualResultsOfPrinting(t *testing.T) {
	r := newRandom(514)
	for n := range 200 {
		p, c, d := randomPress(r), randomCover(r), anyCurve(r)
		switch n % 4 {
		case 1:
			p, c = edgePress(r), edgeCover(r)
		case 2:
			p.Inks[2] = anyCurve(r)
		case 3:
			c = impl.Cover(d[3:7])
		}
		number := r.Int64N(20) - 2
		if n%5 == 0 {
			number = int64(r.Uint64())
		}
		first, second := printingResultsOf(p, c, d, number), printingResultsOf(p, c, d, number)
		wantTrue(t, "the results of a second call", slices.Equal(first, second))
	}
}

// printingResultsOf has the bits of all that the functions of chapter 5 tell of these arguments.
func printingResultsOf(p impl.Press, c impl.Cover, d impl.Curve, n int64) []int64 {
	var list []int64
	numbers := func(code int64, more ...float32) {
		for _, a := range more {
			list = append(list, int64(math.Float32bits(a)))
		}
		list = append(list, code)
	}
	tiles := func(code int64, more ...impl.Tile) {
		for _, tile := range more {
			for i := range int64(16) {
				if tile[i/4][i%4] {
					code += 100 << i
				}
			}
			list = append(list, code, impl.LevelOf(tile))
		}
	}
	k, code := impl.KeyOf(n)
	list = append(list, code, impl.NumberOfKey(k))
	o, code := impl.OverprintOf(p, k)
	numbers(code, o[:]...)
	a, code := impl.GainAt(d[0], c[0])
	numbers(code, a)
	a, code = impl.CoverBefore(c[1], d[1])
	numbers(code, a)
	for _, share := range []float32{d[2], c[2]} {
		less, code := impl.LimitInk(c, share)
		numbers(code, less[:]...)
		less, code = impl.PutBlackUnder(c, share)
		numbers(code, less[:]...)
	}
	grown, code := impl.CoverWithGain(p, c)
	numbers(code, grown[:]...)
	areas, code := impl.AreasOf(c)
	numbers(code, areas[:]...)
	printed, code := impl.PrintedCurve(p, c)
	numbers(code, printed[:]...)
	look, code := impl.PrintedLook(p, c, d)
	numbers(code, look[:]...)
	a, code = impl.InkIn(c)
	numbers(code, a)
	best, a, code := impl.BestCover(p, impl.FlatCurve(1), impl.Three(d[:3]), n, d[4])
	numbers(code, append(best[:], a)...)
	best, a, code = impl.BestCover(p, d, impl.Three{50, 1, 2}, 1, 4)
	numbers(code, append(best[:], a)...)
	a, code = impl.CoverSeen(p, n, d)
	numbers(code, a)
	place, code := impl.PlaceNumber(n, int64(len(list)%5))
	list = append(list, code, place)
	tile, code := impl.TileOf(n)
	tiles(code, tile, impl.TurnTile(tile), impl.OverTiles(tile, impl.TurnTile(tile)))
	four, code := impl.TilesOf(c)
	tiles(code, four[:]...)
	average, code := impl.TileCurve(p, four)
	numbers(code, average[:]...)
	read, code := impl.ReadPress(impl.PressText(p))
	numbers(code, read.Gain)
	return list
}
