package tests

import (
	"testing"

	"loop.example/g01213/impl"
)

// P12, tiles have their levels, however they are turned.

func TestP12PlacesHaveNumbers(t *testing.T) {
	for n, wanted := range oraclePlaces() {
		number, code := impl.PlaceNumber(int64(n/4), int64(n%4))
		wantFound(t, "PlaceNumber", number, code, wanted)
	}
}

func TestP12TilesHaveTheirLevels(t *testing.T) {
	want(t, "TileOf 0", tileOf(t, 0), impl.Tile{})
	all := [4]bool{true, true, true, true}
	want(t, "TileOf 16", tileOf(t, 16), impl.Tile{all, all, all, all})
	want(t, "TileOf 1", tileOf(t, 1), impl.Tile{{true}})
	want(t, "TileOf 4", tileOf(t, 4), impl.Tile{{0: true, 2: true}, {}, {0: true, 2: true}})
	for level := range int64(17) {
		tile := tileOf(t, level)
		want(t, "TileOf", tile, oracleTile(level))
		want(t, "LevelOf TileOf", impl.LevelOf(tile), level)
		if level < 16 {
			want(t, "the next tile has all of these places", impl.OverTiles(tile, tileOf(t, level+1)), tileOf(t, level+1))
		}
	}
}

func TestP12TilesAreTurned(t *testing.T) {
	r := newRandom(1211)
	want(t, "a corner is turned", impl.TurnTile(impl.Tile{{true}}), impl.Tile{{3: true}})
	want(t, "a row is turned", impl.TurnTile(impl.Tile{1: {true, true, true, true}}), impl.Tile{{2: true}, {2: true}, {2: true}, {2: true}})
	want(t, "a place is turned", impl.TurnTile(impl.Tile{2: {3: true}}), impl.Tile{3: {1: true}})
	want(t, "nothing is turned", impl.TurnTile(impl.Tile{}), impl.Tile{})
	for n := range int64(400) {
		tile := anyTile(r)
		if n <= 16 {
			tile = tileOf(t, n)
		}
		turned := tile
		for range 4 {
			want(t, "TurnTile", impl.TurnTile(turned), oracleTurned(turned))
			turned = impl.TurnTile(turned)
			want(t, "LevelOf a tile that is turned", impl.LevelOf(turned), impl.LevelOf(tile))
		}
		want(t, "four turns leave a tile", turned, tile)
	}
}

func TestP12TilesOverTiles(t *testing.T) {
	r := newRandom(1212)
	for range 300 {
		u, v := anyTile(r), anyTile(r)
		both, level := impl.OverTiles(u, v), int64(0)
		for n := range 16 {
			row, column := n/4, n%4
			want(t, "OverTiles", both[row][column], u[row][column] || v[row][column])
			if both[row][column] {
				level++
			}
		}
		want(t, "LevelOf OverTiles", impl.LevelOf(both), level)
		want(t, "OverTiles the other way", impl.OverTiles(v, u), both)
		want(t, "OverTiles of a tile and itself", impl.OverTiles(u, u), u)
		want(t, "OverTiles of a tile and nothing", impl.OverTiles(u, impl.Tile{}), u)
		want(t, "OverTiles of a tile and all", impl.OverTiles(u, tileOf(t, 16)), tileOf(t, 16))
	}
}

// turnedTile is the tile of an ink with a level.
func turnedTile(level int64, ink int) impl.Tile {
	tile := oracleTile(level)
	for range ink {
		tile = oracleTurned(tile)
	}
	return tile
}

func wantTiles(t *testing.T, name string, c impl.Cover, levels [4]int64) {
	t.Helper()
	var wanted [4]impl.Tile
	for i, level := range levels {
		wanted[i] = turnedTile(level, i)
	}
	tiles, code := impl.TilesOf(c)
	wantFound(t, "TilesOf, "+name, tiles, code, wanted)
}

func TestP12TilesOfCovers(t *testing.T) {
	const half = 0x1p-5 // of a level
	wantTiles(t, "nothing", impl.Cover{}, [4]int64{})
	wantTiles(t, "-0", impl.Cover{minus0, minus0, minus0, minus0}, [4]int64{})
	wantTiles(t, "all", impl.Cover{1, 1, 1, 1}, [4]int64{16, 16, 16, 16})
	wantTiles(t, "nearly nothing, and nearly all", impl.Cover{tiniest, 1 - 0x1p-24, 0x1p-24, 0.99}, [4]int64{0, 16, 0, 16})
	for level := range int64(17) {
		exact := float32(level) / 16
		wantTiles(t, "levels", impl.Cover{exact, exact, exact, exact}, [4]int64{level, level, level, level})
		if level == 16 {
			continue
		}
		even := level + level%2
		between := exact + half
		wantTiles(t, "just between two levels", impl.Cover{between, between, between, between}, [4]int64{even, even, even, even})
		wantTiles(t, "a little less, and a little more", impl.Cover{between - 0x1p-24, between + 0x1p-24, between - 0.01, between + 0.01}, [4]int64{level, level + 1, level, level + 1})
	}
	r := newRandom(1213)
	for range 300 {
		c := randomCover(r)
		tiles, code := impl.TilesOf(c)
		wantCode(t, "TilesOf", code, impl.OK)
		for i, tile := range tiles {
			wantTrue(t, "the level of a tile is near its cover", near(float64(impl.LevelOf(tile)), 16*float64(c[i]), 0.5))
			want(t, "TilesOf are turned", tile, turnedTile(impl.LevelOf(tile), i))
		}
	}
}

func TestP12TilesReflect(t *testing.T) {
	r := newRandom(1214)
	p := flatPress(1, 1, 0.5, 0.25, 0, 0.75)
	corner, full := impl.Tile{{true}}, tileOf(t, 16)
	for _, c := range []struct {
		name  string
		tiles [4]impl.Tile
		a     float32
	}{
		{"no places", [4]impl.Tile{}, 1},
		{"one place of the first ink", [4]impl.Tile{corner}, 15.5 / 16},
		{"one place of the last ink", [4]impl.Tile{3: corner}, 15.75 / 16},
		{"two inks at one place", [4]impl.Tile{corner, corner}, 15.125 / 16},
		{"two inks at two places", [4]impl.Tile{corner, impl.TurnTile(corner)}, 14.75 / 16},
		{"all places of one ink", [4]impl.Tile{1: full}, 0.25},
		{"all places of two inks", [4]impl.Tile{full, full}, 0.125},
		{"all places of all inks", [4]impl.Tile{full, full, full, full}, 0},
		{"half of the places", [4]impl.Tile{2: tileOf(t, 8)}, 0.5},
	} {
		wantCurve(t, "TileCurve of "+c.name, tileCurve(t, p, c.tiles), impl.FlatCurve(c.a))
	}
	for range 50 {
		p := randomPress(r)
		wantNearCurve(t, "tiles without places reflect as the paper", tileCurve(t, p, [4]impl.Tile{}), p.Paper, 1e-6)
		for n := range 16 {
			var tiles [4]impl.Tile
			for i := range tiles {
				if oracleHas(n, i) {
					tiles[i] = full
				}
			}
			wantNearCurve(t, "tiles of all places reflect as an overprint", tileCurve(t, p, tiles), oracleOverprint(p, n), 1e-6)
		}
	}
}
