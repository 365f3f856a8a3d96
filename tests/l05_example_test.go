package tests

import (
	"testing"

	"loop.example/g01213/impl"
)

// The example of chapter 5, word by word.
func TestExampleOfChapter5(t *testing.T) {
	areas, code := impl.AreasOf(impl.Cover{0.5, 0.5, 0, 0})
	wantFound(t, "AreasOf", areas, code, [16]float32{0.25, 0.25, 0.25, 0.25})
	wantNumber(t, "GainAt 0.25 and 0.5", gainAt(t, 0.25, 0.5), 0.75)
	less, code := impl.LimitInk(impl.Cover{1, 1, 0, 0.5}, 1.5)
	wantCover(t, "LimitInk", less, code, impl.Cover{0.5, 0.5, 0, 0.5})
	under, code := impl.PutBlackUnder(impl.Cover{0.5, 0.75, 1, 0}, 0.5)
	wantCover(t, "PutBlackUnder", under, code, impl.Cover{0.25, 0.5, 0.75, 0.25})
	tile, code := impl.TileOf(2)
	wantFound(t, "TileOf 2", tile, code, impl.Tile{{true}, {}, {false, false, true}})
	p := colourPress()
	wantNearCurve(t, "PrintedCurve of no cover", printedCurve(t, p, impl.Cover{}), p.Paper, 1e-6)
}
