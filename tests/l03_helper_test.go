package tests

import (
	"math/rand/v2"
	"testing"

	"loop.example/g01213/impl"
)

func flatPigment(name string, k, s float32, cost int64) impl.Pigment {
	return impl.Pigment{Name: name, K: impl.FlatCurve(k), S: impl.FlatCurve(s), Cost: cost}
}

func shelfOf(list ...impl.Pigment) impl.Shelf { return impl.Shelf{Pigments: list} }

// twoShelf is the shelf of the example of chapter 3, with 10 and 9 drops in the tins.
func twoShelf() impl.Shelf {
	x := shelfOf(flatPigment("white", 0, 1, 1), flatPigment("black", 1, 1, 3))
	x.Tins = [6]int32{10, 9}
	return x
}

// fullShelf has MaxPigments pigments, the longest and the shortest names, and the fullest and the emptiest tins.
func fullShelf() impl.Shelf {
	x := shelfOf(
		flatPigment("a", 0, 1, 0), flatPigment("abcdefghijkl", 1, 1, impl.MaxCost), flatPigment("zzzzzzzzzzzz", 0.5, 2, 5),
		flatPigment("ab", 0.25, 0, 7), flatPigment("z", 3, 4, 11), flatPigment("b", 2, 0.5, 13),
	)
	x.Tins = [6]int32{impl.MaxTin, 0, 1000, 1, 999999999, 12}
	return x
}

// randomShelf has ordinary pigments, the names of which are no two the same.
func randomShelf(r *rand.Rand, count int) impl.Shelf {
	var x impl.Shelf
	for i := range count {
		name := []byte{byte('a' + i)}
		for range r.IntN(12) {
			name = append(name, byte('a'+r.IntN(26)))
		}
		p := impl.Pigment{Name: string(name), K: randomCurve(r, 0, 2), S: randomCurve(r, 0.01, 2), Cost: r.Int64N(impl.MaxCost + 1)}
		x.Pigments = append(x.Pigments, p)
		x.Tins[i] = r.Int32N(impl.MaxTin + 1)
	}
	return x
}

// randomDrops has one drop at least.
func randomDrops(r *rand.Rand, count, most int) impl.Drops {
	var d impl.Drops
	for i := range count {
		if r.IntN(3) > 0 {
			d[i] = int16(r.IntN(most + 1))
		}
	}
	if d == (impl.Drops{}) {
		d[r.IntN(count)] = int16(1 + r.IntN(most))
	}
	return d
}

// copyOfShelf shares no memory with the shelf.
func copyOfShelf(x impl.Shelf) impl.Shelf {
	x.Pigments = append([]impl.Pigment(nil), x.Pigments...)
	return x
}

// sameShelf is what the document calls the same in all, told without the program.
func sameShelf(x, y impl.Shelf) bool {
	if len(x.Pigments) != len(y.Pigments) || x.Tins != y.Tins {
		return false
	}
	for i, p := range x.Pigments {
		q := y.Pigments[i]
		if p.Name != q.Name || p.Cost != q.Cost || !sameCurve(p.K, q.K) || !sameCurve(p.S, q.S) {
			return false
		}
	}
	return true
}

func sameLayer(x, y impl.Layer) bool {
	return sameCurve(x.K, y.K) && sameCurve(x.S, y.S) && same(x.Thick, y.Thick)
}

func want[T comparable](t *testing.T, name string, got, want T) {
	t.Helper()
	if got != want {
		t.Errorf("%s: got %v, want %v", name, got, want)
	}
}

// wantNone asks for a code, and that the result beside it is zero.
func wantNone[T comparable](t *testing.T, name string, got T, code, wanted int64) {
	t.Helper()
	var none T
	wantCode(t, name, code, wanted)
	want(t, name+" beside an error", got, none)
}

// wantFound asks for a result, and OK.
func wantFound[T comparable](t *testing.T, name string, got T, code int64, wanted T) {
	t.Helper()
	wantCode(t, name, code, impl.OK)
	want(t, name, got, wanted)
}

func wantNoShelf(t *testing.T, name string, x impl.Shelf, code, wanted int64) {
	t.Helper()
	wantNone(t, name, x.Tins, code, wanted)
	want(t, name+", pigments beside an error", len(x.Pigments), 0)
}

func wantShelf(t *testing.T, name string, got impl.Shelf, code int64, wanted impl.Shelf) {
	t.Helper()
	wantCode(t, name, code, impl.OK)
	if !sameShelf(got, wanted) {
		t.Errorf("%s: got %v, want %v", name, got, wanted)
	}
}

func wantNoList[T any](t *testing.T, name string, list []T, code, wanted int64) {
	t.Helper()
	wantCode(t, name, code, wanted)
	want(t, name+", length beside an error", len(list), 0)
}

func wantLayer(t *testing.T, name string, got, wanted impl.Layer) {
	t.Helper()
	wantCurve(t, name+", K", got.K, wanted.K)
	wantCurve(t, name+", S", got.S, wanted.S)
	wantNumber(t, name+", Thick", got.Thick, wanted.Thick)
}

func mixParts(t *testing.T, x impl.Shelf, parts impl.Parts) impl.Layer {
	t.Helper()
	m, code := impl.MixParts(x, parts)
	wantCode(t, "MixParts", code, impl.OK)
	return m
}

func mixDrops(t *testing.T, x impl.Shelf, d impl.Drops) impl.Layer {
	t.Helper()
	m, code := impl.MixDrops(x, d)
	wantCode(t, "MixDrops", code, impl.OK)
	return m
}

func paintOf(t *testing.T, x impl.Shelf, d impl.Drops) impl.Curve {
	t.Helper()
	c, code := impl.PaintOf(x, d)
	wantCode(t, "PaintOf", code, impl.OK)
	return c
}

func partsOf(t *testing.T, x impl.Shelf, d impl.Drops) impl.Parts {
	t.Helper()
	parts, code := impl.PartsOf(x, d)
	wantCode(t, "PartsOf", code, impl.OK)
	return parts
}
