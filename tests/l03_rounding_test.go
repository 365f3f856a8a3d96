package tests

import (
	"testing"

	"loop.example/g01213/impl"
)

// P1, 'Numbers and roundings': each step of chapter 3 is narrow and rounded once, in the order that is told.

func TestP1RoundingOfParts(t *testing.T) {
	r := newRandom(101)
	for range 3000 {
		count := 1 + r.IntN(impl.MaxPigments)
		d := randomDrops(r, count, impl.MaxDrops)
		parts, code := impl.PartsOf(randomShelf(r, count), d)
		wantFound(t, "PartsOf", parts, code, oracleParts(d))
	}
}

func TestP1RoundingOfMixtures(t *testing.T) {
	r := newRandom(102)
	for range 300 {
		count := 1 + r.IntN(impl.MaxPigments)
		x, d := randomShelf(r, count), randomDrops(r, count, impl.MaxDrops)
		wantLayer(t, "MixDrops", mixDrops(t, x, d), oracleMixed(x, oracleParts(d)))
		wantCurve(t, "PaintOf", paintOf(t, x, d), oraclePaint(x, d))
		var parts impl.Parts
		for i := range count {
			parts[i] = randomBetween(r, 0, 3)
		}
		wantLayer(t, "MixParts", mixParts(t, x, parts), oracleMixed(x, parts))
	}
}

// Numbers so small that their products are subnormal, or nothing at all.
func TestP1RoundingOfSmallMixtures(t *testing.T) {
	r := newRandom(103)
	for range 200 {
		x := randomShelf(r, 4)
		for i := range x.Pigments {
			x.Pigments[i].K, x.Pigments[i].S = randomCurve(r, 0, 0x1p-125), randomCurve(r, 0, 0x1p-140)
		}
		parts := impl.Parts{randomBetween(r, 0, 1), randomBetween(r, 0, 0x1p-10), 1, randomBetween(r, 0, 1)}
		wantLayer(t, "MixParts of small numbers", mixParts(t, x, parts), oracleMixed(x, parts))
	}
}

// A sum begins with its first number, and has the products of parts that are 0, too: so -0 is kept, or not.
func TestP1SignsOfMixtures(t *testing.T) {
	minus, none := flatPigment("a", minus0, 1, 0), flatPigment("b", 0, 1, 0)
	other := flatPigment("c", minus0, 2, 0)
	cases := []struct {
		name  string
		x     impl.Shelf
		parts impl.Parts
		k, s  float32
	}{
		{"-0 alone", shelfOf(minus), impl.Parts{1}, minus0, 1},
		{"twice -0", shelfOf(minus, other), impl.Parts{1, 1}, minus0, 3},
		{"-0 and no part of -0", shelfOf(minus, other), impl.Parts{1, 0}, minus0, 1},
		{"-0 and no part of 0", shelfOf(minus, none), impl.Parts{1, 0}, 0, 1},
		{"-0 and the part -0 of 0", shelfOf(minus, none), impl.Parts{1, minus0}, minus0, 1},
		{"no part of 0, and -0", shelfOf(none, minus), impl.Parts{0, 1}, 0, 1},
		{"the part -0 alone", shelfOf(none), impl.Parts{minus0}, minus0, minus0},
		{"the part -0 of -0", shelfOf(minus), impl.Parts{minus0}, 0, minus0},
		{"parts of -0", shelfOf(none, minus), impl.Parts{minus0, minus0}, 0, minus0},
		{"parts of 0", shelfOf(none, minus), impl.Parts{}, 0, 0},
		{"parts of 0 of -0", shelfOf(minus, other), impl.Parts{}, minus0, 0},
	}
	for _, c := range cases {
		wantLayer(t, "MixParts, "+c.name, mixParts(t, c.x, c.parts), flatLayer(c.k, c.s, 1))
	}
	wantLayer(t, "MixDrops of -0", mixDrops(t, shelfOf(minus), impl.Drops{7}), flatLayer(minus0, 1, 1))
	wantLayer(t, "MixDrops of -0 beside 0", mixDrops(t, shelfOf(minus, none), impl.Drops{7}), flatLayer(0, 1, 1))
}

func TestP1RoundingOfLooks(t *testing.T) {
	r := newRandom(104)
	for range 150 {
		count := 1 + r.IntN(impl.MaxPigments)
		x, d, light := randomShelf(r, count), randomDrops(r, count, 50), randomCurve(r, 0.1, 2)
		look, code := impl.LookOfDrops(x, d, light)
		wantCode(t, "LookOfDrops", code, impl.OK)
		wantThree(t, "LookOfDrops", look, oracleLook(oracleSeen(numbersOf(light), numbersOf(oraclePaint(x, d)))))
	}
}

func TestP1RoundingOfLadders(t *testing.T) {
	r := newRandom(105)
	for range 30 {
		count := 2 + r.IntN(impl.MaxPigments-1)
		x := randomShelf(r, count)
		a := r.IntN(count)
		b := (a + 1 + r.IntN(count-1)) % count
		steps := 1 + r.IntN(12)
		ladder, code := impl.LadderOf(x, int64(a), int64(b), int64(steps))
		wantCode(t, "LadderOf", code, impl.OK)
		want(t, "the length of a ladder", len(ladder), steps+1)
		for i, c := range ladder {
			var d impl.Drops
			d[a], d[b] = int16(steps-i), int16(i)
			wantCurve(t, "a curve of LadderOf", c, oraclePaint(x, d))
		}
	}
}

func TestP1RoundingOfNearness(t *testing.T) {
	r := newRandom(106)
	for range 300 {
		x, c := randomShelf(r, 1+r.IntN(impl.MaxPigments)), randomCurve(r, 0, 1)
		at, code := impl.NearestPigment(x, c)
		wantFound(t, "NearestPigment", at, code, oracleNearest(x, c))
	}
	// Pigments with the same numbers in another order are as near, but for the roundings of the sums.
	for range 300 {
		x, c := randomShelf(r, impl.MaxPigments), impl.FlatCurve(randomBetween(r, 0, 1))
		for i := range x.Pigments {
			x.Pigments[i].K, x.Pigments[i].S = x.Pigments[0].K, impl.FlatCurve(1)
			k := &x.Pigments[i].K
			r.Shuffle(len(k), func(a, b int) { k[a], k[b] = k[b], k[a] })
		}
		at, code := impl.NearestPigment(x, c)
		wantFound(t, "NearestPigment of shuffled pigments", at, code, oracleNearest(x, c))
	}
}
