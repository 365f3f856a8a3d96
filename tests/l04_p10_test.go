package tests

import (
	"testing"

	"loop.example/g01213/impl"
)

func dropsFor(t *testing.T, x impl.Shelf, parts impl.Parts, total int64) impl.Drops {
	t.Helper()
	d, code := impl.DropsFor(x, parts, total)
	wantCode(t, "DropsFor", code, impl.OK)
	return d
}

func TestP10DropsHaveTheirTotals(t *testing.T) {
	r := newRandom(1001)
	for n := range 600 {
		count := 1 + n%impl.MaxPigments
		x, parts := greys(count), randomParts(r, count, []float64{1, 1e-30, 1e30, 1e-44}[n/6%4])
		for _, total := range []int64{1, 2, int64(count), 3 + r.Int64N(50), impl.MaxDrops - 1, impl.MaxDrops} {
			d := dropsFor(t, x, parts, total)
			want(t, "DropsFor, the total", impl.TotalDrops(d), total)
			wantTrue(t, "DropsFor are valid", impl.ValidDrops(x, d))
			want(t, "DropsFor, as the oracle tells", d, oracleDropsFor(count, parts, total))
			wantNearDrops(t, parts, d, total)
		}
	}
}

// wantNearDrops asks that no number is a whole drop away from its share.
func wantNearDrops(t *testing.T, parts impl.Parts, d impl.Drops, total int64) {
	t.Helper()
	sum := 0.0
	for _, a := range parts {
		sum += float64(a)
	}
	for i, a := range parts {
		share := float64(a) / sum * float64(total)
		wantTrue(t, "DropsFor are nearest to the parts", near(float64(d[i]), share, 1.001))
	}
}

func TestP10DropsForKnownParts(t *testing.T) {
	six := fullShelf()
	cases := []struct {
		name  string
		shelf impl.Shelf
		parts impl.Parts
		total int64
		drops impl.Drops
	}{
		{"one drop", twoShelf(), impl.Parts{0.5, 0.5}, 1, impl.Drops{1}},
		{"one drop for the greater part", twoShelf(), impl.Parts{0.25, 0.75}, 1, impl.Drops{0, 1}},
		{"halves", twoShelf(), impl.Parts{0.5, 0.5}, 5, impl.Drops{3, 2}},
		{"halves that do not add up to 1", twoShelf(), impl.Parts{8, 8}, 5, impl.Drops{3, 2}},
		{"quarters", twoShelf(), impl.Parts{1, 3}, 1000, impl.Drops{250, 750}},
		{"equal rests", six, impl.Parts{1, 1, 1, 1, 1, 1}, 9, impl.Drops{2, 2, 2, 1, 1, 1}},
		{"a rest for each but the last", six, impl.Parts{1, 1, 1, 1, 1, 1}, 5, impl.Drops{1, 1, 1, 1, 1}},
		{"MaxDrops", six, impl.Parts{1, 1, 1, 1, 1, 1}, 1000, impl.Drops{167, 167, 167, 167, 166, 166}},
		{"the greatest rest is the last one", six, impl.Parts{1, 1, 1, 1, 1, 3}, 1, impl.Drops{0, 0, 0, 0, 0, 1}},
		{"equal rests behind a smaller one", six, impl.Parts{5, 6, 0, 6, 6, 9}, 8, impl.Drops{1, 2, 0, 2, 1, 2}},
		{"parts that are 0", six, impl.Parts{0, 0, 7}, 1000, impl.Drops{0, 0, 1000}},
		{"no rests", six, impl.Parts{1, 2, 3, 4, 5, 6}, 42, impl.Drops{2, 4, 6, 8, 10, 12}},
		{"one pigment", shelfOf(flatPigment("a", 1, 1, 1)), impl.Parts{0.001}, 1000, impl.Drops{1000}},
		{"-0", six, impl.Parts{minus0, 1, minus0, minus0, minus0, minus0}, 3, impl.Drops{0, 3}},
		{"the least part", twoShelf(), impl.Parts{tiniest, 0}, 7, impl.Drops{7}},
		{"a part that is nothing beside another one", twoShelf(), impl.Parts{tiniest, largest}, 7, impl.Drops{0, 7}},
		{"small parts", twoShelf(), impl.Parts{tiniest, 3 * tiniest}, 8, impl.Drops{2, 6}},
		{"greatest parts", twoShelf(), impl.Parts{largest / 2, largest / 2}, 4, impl.Drops{2, 2}},
	}
	for _, c := range cases {
		want(t, "DropsFor, "+c.name, dropsFor(t, c.shelf, c.parts, c.total), c.drops)
	}
}

// The parts of drops have these drops.
func TestP10DropsForPartsOfDrops(t *testing.T) {
	r := newRandom(1002)
	for n := range 500 {
		count := 1 + n%impl.MaxPigments
		x, d := greys(count), randomDrops(r, count, 160)
		want(t, "DropsFor PartsOf", dropsFor(t, x, partsOf(t, x, d), oracleTotal(d)), d)
	}
}

func TestP10BestDropsOfTheOracle(t *testing.T) {
	r := newRandom(1003)
	totals := []int64{0, 12, 12, 6, 3, 2, 2}
	for n := range 18 {
		count := 1 + n%impl.MaxPigments
		x, target, total := randomShelf(r, count), randomCurve(r, 0, 1), totals[count]
		wanted, off := oracleFirstLeast(x, oracleRecipes(count, int16(total)), target)
		d, got, code := impl.BestDrops(x, target, total)
		wantFound(t, "BestDrops", d, code, wanted)
		wantNumber(t, "BestDrops, off", got, off)
	}
}

func TestP10BestDropsAreBest(t *testing.T) {
	r := newRandom(1004)
	most := []int64{0, 1000, 499, 30, 12, 8, 6} // with one more there would be more than MaxRecipes
	for n := range 36 {
		count := 1 + n%impl.MaxPigments
		x, total := randomShelf(r, count), most[count]
		if n >= 12 {
			total = 1 + r.Int64N(min(total, 40))
		}
		target := randomCurve(r, 0, 1)
		if n%2 == 0 {
			target = curveOfParts(t, x, randomParts(r, count, 1))
		}
		d, off, code := impl.BestDrops(x, target, total)
		wantCode(t, "BestDrops", code, impl.OK)
		want(t, "BestDrops, the total", impl.TotalDrops(d), total)
		wantNumber(t, "BestDrops, off", off, offOfDrops(t, x, d, target))
		all, code := impl.AllDrops(int64(count), total)
		wantCode(t, "AllDrops", code, impl.OK)
		before := true
		for _, e := range all {
			before = before && e != d
			other := offOfDrops(t, x, e, target)
			wantTrue(t, "BestDrops are best, and the first ones", other > off || !before && other == off)
		}
		wantBestBeside(t, "BestDrops are best beside", x, d, target, true)
	}
}

func TestP10BestDropsOfSeveral(t *testing.T) {
	x := greys(4)
	cases := []struct {
		name   string
		shelf  impl.Shelf
		target impl.Curve
		total  int64
		drops  impl.Drops
	}{
		{"equal pigments", x, paintOf(t, x, impl.Drops{1, 1}), 4, impl.Drops{2, 0, 0, 2}},
		{"equal pigments without the first", x, paintOf(t, x, impl.Drops{0, 1}), 3, impl.Drops{0, 0, 0, 3}},
		{"equal pigments alone", shelfOf(x.Pigments[1:]...), impl.FlatCurve(0.1), 3, impl.Drops{0, 0, 3}},
		{"one drop", x, impl.FlatCurve(0.9), 1, impl.Drops{1}},
		{"MaxDrops of one pigment", shelfOf(x.Pigments[0]), impl.Curve{}, impl.MaxDrops, impl.Drops{impl.MaxDrops}},
		{"one that has an error", dimShelf(), impl.FlatCurve(0.5), 4, impl.Drops{0, 4}},
		{"the first one has an error", shelfOf(dimShelf().Pigments[1], dimShelf().Pigments[0]), impl.FlatCurve(0.5), 4, impl.Drops{1, 3}},
	}
	for _, c := range cases {
		d, off, code := impl.BestDrops(c.shelf, c.target, c.total)
		wantFound(t, "BestDrops, "+c.name, d, code, c.drops)
		wantNumber(t, "BestDrops, off, "+c.name, off, offOfDrops(t, c.shelf, d, c.target))
	}
}

func TestP10DropsBeside(t *testing.T) {
	cases := []struct {
		name   string
		shelf  impl.Shelf
		drops  impl.Drops
		beside []impl.Drops
	}{
		{"two pigments", twoShelf(), impl.Drops{1, 1}, []impl.Drops{{0, 2}, {2, 0}}},
		{"only the first one", twoShelf(), impl.Drops{3}, []impl.Drops{{2, 1}}},
		{"only the second one", twoShelf(), impl.Drops{0, 3}, []impl.Drops{{1, 2}}},
		{"one drop", twoShelf(), impl.Drops{0, 1}, []impl.Drops{{1, 0}}},
		{"MaxDrops", twoShelf(), impl.Drops{1000, 5}, []impl.Drops{{999, 6}}},
		{"MaxDrops twice", twoShelf(), impl.Drops{1000, 1000}, nil},
		{"one less than MaxDrops", twoShelf(), impl.Drops{999, 1000}, []impl.Drops{{1000, 999}}},
		{"one pigment", shelfOf(flatPigment("a", 1, 1, 1)), impl.Drops{5}, nil},
		{"in ascending order of both", greys(3), impl.Drops{1, 2, 3}, []impl.Drops{{0, 3, 3}, {0, 2, 4}, {2, 1, 3}, {1, 1, 4}, {2, 2, 2}, {1, 3, 2}}},
		{"two of six", fullShelf(), impl.Drops{0, 0, 1000, 0, 0, 1}, []impl.Drops{
			{1, 0, 999, 0, 0, 1}, {0, 1, 999, 0, 0, 1}, {0, 0, 999, 1, 0, 1}, {0, 0, 999, 0, 1, 1}, {0, 0, 999, 0, 0, 2},
			{1, 0, 1000}, {0, 1, 1000}, {0, 0, 1000, 1}, {0, 0, 1000, 0, 1},
		}},
	}
	for _, c := range cases {
		list, code := impl.DropsBeside(c.shelf, c.drops)
		wantDrops(t, "DropsBeside, "+c.name, list, code, c.beside)
	}
	r := newRandom(1005)
	for n := range 200 {
		count := 1 + n%impl.MaxPigments
		d := randomDrops(r, count, 1000)
		if n%3 == 0 {
			d[r.IntN(count)] = impl.MaxDrops
		}
		list, code := impl.DropsBeside(greys(count), d)
		wantDrops(t, "DropsBeside", list, code, oracleBeside(count, d))
		for _, e := range list {
			want(t, "DropsBeside have the same total", oracleTotal(e), oracleTotal(d))
		}
	}
}

func TestP10IsBestBeside(t *testing.T) {
	r := newRandom(1006)
	best := 0
	for n := range 150 {
		count := 1 + n%impl.MaxPigments
		x, d, target := randomShelf(r, count), randomDrops(r, count, []int{12, 1000}[n/6%2]), randomCurve(r, 0, 1)
		wanted := true
		for _, e := range oracleBeside(count, d) {
			wanted = wanted && offOfDrops(t, x, e, target) >= offOfDrops(t, x, d, target)
		}
		wantBestBeside(t, "IsBestBeside", x, d, target, wanted)
		wantBestBeside(t, "drops are best for their own paint", x, d, paintOf(t, x, d), true)
		if wanted {
			best++
		}
	}
	wantTrue(t, "some drops are best beside, and some are not", best > 20 && best < 130)
	x := greys(3)
	black := paintOf(t, x, impl.Drops{0, 1})
	wantBestBeside(t, "drops beside that are equally far off", x, impl.Drops{0, 2, 2}, black, true)
	wantBestBeside(t, "the last one beside is less off", x, impl.Drops{1, 0, 2}, black, false)
	wantBestBeside(t, "drops beside with errors", dimShelf(), impl.Drops{1, 1}, impl.FlatCurve(0.4), true)
	wantBestBeside(t, "one of the drops beside has an error", stuckShelf(), impl.Drops{1, 1}, impl.FlatCurve(0.5), true)
	wantBestBeside(t, "one of the drops beside has an error, another one is less off", stuckShelf(), impl.Drops{1, 1}, impl.FlatCurve(0.1), false)
	both := stuckShelf()
	both.Pigments[1].K[1], both.Pigments[1].S[1] = largest, tiniest
	wantBestBeside(t, "all drops beside have errors", both, impl.Drops{1, 1}, impl.FlatCurve(1), true)
	wantBestBeside(t, "one pigment", shelfOf(x.Pigments[0]), impl.Drops{1}, impl.Curve{}, true)
}

func TestP10CorrectDropsOfTheOracle(t *testing.T) {
	r := newRandom(1007)
	for n := range 24 {
		count := 1 + n%impl.MaxPigments
		x, d, target, added := randomShelf(r, count), randomDrops(r, count, 9), randomCurve(r, 0, 1), r.Int64N(6)
		wanted, off := oracleFirstLeast(x, oracleCorrections(count, d, int16(added)), target)
		got, left, code := impl.CorrectDrops(x, d, target, added)
		wantFound(t, "CorrectDrops", got, code, wanted)
		wantNumber(t, "CorrectDrops, off", left, off)
	}
}

func TestP10CorrectDropsAreNeverMoreOff(t *testing.T) {
	r := newRandom(1008)
	for n := range 120 {
		count := 1 + n%impl.MaxPigments
		x, d, target, added := randomShelf(r, count), randomDrops(r, count, 30), randomCurve(r, 0, 1), r.Int64N(impl.MaxAdded+1)
		if n%4 == 0 {
			d[r.IntN(count)] = int16(impl.MaxDrops - r.IntN(20))
		}
		if n%3 == 0 {
			added = impl.MaxAdded
		}
		wanted, least := d, offOfDrops(t, x, d, target)
		for _, e := range oracleCorrections(count, d, int16(added)) {
			if off := offOfDrops(t, x, e, target); off < least {
				wanted, least = e, off
			}
		}
		got, off, code := impl.CorrectDrops(x, d, target, added)
		wantFound(t, "CorrectDrops", got, code, wanted)
		wantNumber(t, "CorrectDrops, off", off, least)
		wantTrue(t, "what is corrected is never more off", off <= offOfDrops(t, x, d, target))
	}
}

func TestP10CorrectDropsAtTheEdges(t *testing.T) {
	two, x := twoShelf(), greys(3)
	white, black, grey := impl.FlatCurve(1), paintOf(t, two, impl.Drops{0, 1}), paintOf(t, two, impl.Drops{1, 1})
	cases := []struct {
		name   string
		shelf  impl.Shelf
		drops  impl.Drops
		target impl.Curve
		added  int64
		wanted impl.Drops
	}{
		{"nothing added", two, impl.Drops{1}, grey, 0, impl.Drops{1}},
		{"MaxAdded", two, impl.Drops{20, 1}, black, impl.MaxAdded, impl.Drops{20, 21}},
		{"just enough", two, impl.Drops{21, 1}, grey, impl.MaxAdded, impl.Drops{21, 21}},
		{"not enough", two, impl.Drops{22, 1}, grey, impl.MaxAdded, impl.Drops{22, 21}},
		{"the first one", two, impl.Drops{1, 5}, grey, 10, impl.Drops{5, 5}},
		{"not off", two, impl.Drops{3, 3}, grey, 10, impl.Drops{3, 3}},
		{"equally far off", two, impl.Drops{0, 3}, black, 10, impl.Drops{0, 3}},
		{"the first one of several pigments", x, impl.Drops{4, 0, 0}, grey, 10, impl.Drops{4, 4}},
		{"not more than MaxDrops", two, impl.Drops{998, 998}, white, 20, impl.Drops{1000, 998}},
		{"MaxDrops", two, impl.Drops{1000, 1000}, white, 20, impl.Drops{1000, 1000}},
		{"one pigment", shelfOf(x.Pigments[1]), impl.Drops{1}, white, 20, impl.Drops{1}},
	}
	for _, c := range cases {
		got, off, code := impl.CorrectDrops(c.shelf, c.drops, c.target, c.added)
		wantFound(t, "CorrectDrops, "+c.name, got, code, c.wanted)
		wantNumber(t, "CorrectDrops, off, "+c.name, off, offOfDrops(t, c.shelf, got, c.target))
	}
}

// One and two drops more of the second pigment have a ratio that is not finite; of three, scattering is rounded up, and the ratio is finite.
func TestP10CorrectDropsBehindErrors(t *testing.T) {
	grey, bright := flatPigment("grey", 1, 1, 1), flatPigment("bright", 0, 1, 1)
	grey.K[0], grey.S[0] = 0, 0
	bright.K[0], bright.S[0] = 0x1p-20, 2*tiniest
	x, white := shelfOf(grey, bright), impl.FlatCurve(1)
	for n, wanted := range []int64{impl.OK, impl.ErrState, impl.ErrState, impl.OK, impl.OK} {
		_, code := impl.OffOfDrops(x, impl.Drops{1, int16(n)}, white)
		wantCode(t, "OffOfDrops", code, wanted)
	}
	for added, wanted := range []impl.Drops{{1}, {1}, {1}, {1, 3}, {1, 4}} {
		d, off, code := impl.CorrectDrops(x, impl.Drops{1}, white, int64(added))
		wantFound(t, "CorrectDrops behind errors", d, code, wanted)
		wantNumber(t, "CorrectDrops behind errors, off", off, offOfDrops(t, x, wanted, white))
	}
	// Errors of the first pigment do not keep the second one out.
	stuck := stuckShelf()
	for n := range int16(5) {
		_, code := impl.OffOfDrops(stuck, impl.Drops{4 + n, 4}, white)
		wantCode(t, "OffOfDrops with more of the first", code, []int64{impl.OK, impl.ErrState}[min(n, 1)])
	}
	d, _, code := impl.CorrectDrops(stuck, impl.Drops{4, 4}, impl.FlatCurve(0.1), 4)
	wantFound(t, "CorrectDrops with errors of the first", d, code, impl.Drops{4, 8})
}
