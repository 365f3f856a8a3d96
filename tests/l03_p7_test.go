package tests

import (
	"slices"
	"testing"

	"loop.example/g01213/impl"
)

func TestP7TwiceTheDropsHaveTheSameParts(t *testing.T) {
	r := newRandom(131)
	for range 300 {
		count := 1 + r.IntN(impl.MaxPigments)
		x, d, times := randomShelf(r, count), randomDrops(r, count, 50), int64(1+r.IntN(20))
		product, code := impl.ScaleDrops(x, d, times)
		wantCode(t, "ScaleDrops", code, impl.OK)
		want(t, "the total of scaled drops", impl.TotalDrops(product), times*impl.TotalDrops(d))
		want(t, "the parts of scaled drops", partsOf(t, x, product), partsOf(t, x, d))
		twice, code := impl.ScaleDrops(x, d, 2)
		wantCode(t, "ScaleDrops by 2", code, impl.OK)
		sum, code := impl.AddDrops(x, d, d)
		wantFound(t, "AddDrops of drops and themselves", sum, code, twice)
		wantLayer(t, "the mixture of twice the drops", mixDrops(t, x, twice), mixDrops(t, x, d))
		wantCurve(t, "the paint of twice the drops", paintOf(t, x, twice), paintOf(t, x, d))
		least, code := impl.ReduceDrops(x, product)
		same, other := impl.ReduceDrops(x, d)
		wantFound(t, "ReduceDrops of scaled drops", least, code, same)
		wantCode(t, "ReduceDrops", other, impl.OK)
	}
}

func TestP7ScaledDrops(t *testing.T) {
	x := fullShelf()
	cases := []struct {
		drops  impl.Drops
		times  int64
		wanted impl.Drops
	}{
		{impl.Drops{1}, 1000, impl.Drops{1000}}, {impl.Drops{1000, 999}, 1, impl.Drops{1000, 999}}, {impl.Drops{500, 1, 0, 499}, 2, impl.Drops{1000, 2, 0, 998}}, {impl.Drops{0, 0, 333, 0, 0, 7}, 3, impl.Drops{0, 0, 999, 0, 0, 21}},
		{impl.Drops{1, 1, 1, 1, 1, 1}, 1000, impl.Drops{1000, 1000, 1000, 1000, 1000, 1000}}, {impl.Drops{7}, 142, impl.Drops{994}},
	}
	for _, c := range cases {
		product, code := impl.ScaleDrops(x, c.drops, c.times)
		wantFound(t, "ScaleDrops", product, code, c.wanted)
	}
}

func TestP7ReducedDrops(t *testing.T) {
	x := fullShelf()
	cases := map[impl.Drops]impl.Drops{
		{4, 6}: {2, 3}, {1}: {1}, {1000}: {1}, {0, 0, 0, 0, 0, 1000}: {0, 0, 0, 0, 0, 1}, {0, 6, 0, 9}: {0, 2, 0, 3}, {1000, 1000, 1000, 1000, 1000, 1000}: {1, 1, 1, 1, 1, 1},
		{6, 10, 15}: {6, 10, 15}, {1000, 999}: {1000, 999}, {12, 18, 27, 0, 30, 33}: {4, 6, 9, 0, 10, 11}, {1000, 750, 500, 250}: {4, 3, 2, 1}, {997, 0, 997}: {1, 0, 1}, {0, 0, 64, 48}: {0, 0, 4, 3},
	}
	for d, wanted := range cases {
		least, code := impl.ReduceDrops(x, d)
		wantFound(t, "ReduceDrops", least, code, wanted)
		want(t, "the parts of reduced drops", partsOf(t, x, least), partsOf(t, x, d))
	}
	r := newRandom(132)
	for range 300 {
		d := randomDrops(r, impl.MaxPigments, impl.MaxDrops)
		least, code := impl.ReduceDrops(x, d)
		wantFound(t, "ReduceDrops", least, code, slowlyReduced(d))
	}
}

// slowlyReduced tries all divisors.
func slowlyReduced(d impl.Drops) impl.Drops {
	for by := int16(impl.MaxDrops); by > 1; by-- {
		if !slices.ContainsFunc(d[:], func(n int16) bool { return n%by != 0 }) {
			for i := range d {
				d[i] /= by
			}
			return d
		}
	}
	return d
}

// All drops are listed once, in order: an ascending list of as many lists as there are has each of them.
func TestP7AllDropsAreListedOnce(t *testing.T) {
	for count := int64(1); count <= impl.MaxPigments; count++ {
		for total := int64(1); total <= impl.MaxDrops; total++ {
			list, code := impl.AllDrops(count, total)
			ways := waysToPour(count, total)
			if ways > impl.MaxRecipes {
				wantNoList(t, "AllDrops, too many", list, code, impl.ErrLimit)
				continue
			}
			wantCode(t, "AllDrops", code, impl.OK)
			want(t, "the length of AllDrops", int64(len(list)), ways)
			wantListed(t, list, count, total)
		}
	}
}

func wantListed(t *testing.T, list []impl.Drops, count, total int64) {
	t.Helper()
	for i, d := range list {
		want(t, "the total of listed drops", impl.TotalDrops(d), total)
		for j, n := range d {
			if n < 0 || j >= int(count) && n != 0 {
				t.Errorf("AllDrops(%d, %d): got %v", count, total, d)
			}
		}
		if i > 0 && slices.Compare(list[i-1][:], d[:]) >= 0 {
			t.Errorf("AllDrops(%d, %d): got %v before %v", count, total, list[i-1], d)
		}
	}
}

func TestP7ListsOfDrops(t *testing.T) {
	cases := []struct {
		count, total int64
		wanted       []impl.Drops
	}{
		{1, 1, []impl.Drops{{1}}}, {1, 1000, []impl.Drops{{1000}}}, {2, 1, []impl.Drops{{0, 1}, {1, 0}}}, {3, 1, []impl.Drops{{0, 0, 1}, {0, 1}, {1}}},
		{3, 2, []impl.Drops{{0, 0, 2}, {0, 1, 1}, {0, 2}, {1, 0, 1}, {1, 1}, {2}}},
		{6, 1, []impl.Drops{{0, 0, 0, 0, 0, 1}, {0, 0, 0, 0, 1}, {0, 0, 0, 1}, {0, 0, 1}, {0, 1}, {1}}},
	}
	for _, c := range cases {
		list, code := impl.AllDrops(c.count, c.total)
		wantCode(t, "AllDrops", code, impl.OK)
		if !slices.Equal(list, c.wanted) {
			t.Errorf("AllDrops(%d, %d): got %v, want %v", c.count, c.total, list, c.wanted)
		}
	}
	// Just MaxRecipes, the last ones below it, and the first ones above it.
	edges := []struct{ count, total, length int64 }{{2, 499, 500}, {2, 498, 499}, {2, 500, 0}, {2, 1000, 0}, {3, 30, 496}, {3, 31, 0}, {4, 12, 455}, {4, 13, 0}, {5, 8, 495}, {5, 9, 0}, {6, 6, 462}, {6, 7, 0}, {6, 1000, 0}}
	for _, e := range edges {
		list, code := impl.AllDrops(e.count, e.total)
		want(t, "the length of AllDrops", int64(len(list)), e.length)
		want(t, "AllDrops has too many", code == impl.ErrLimit, e.length == 0)
	}
}

func TestP7Parts(t *testing.T) {
	third := float32(1) / 3
	cases := map[impl.Drops]impl.Parts{
		{1}: {1}, {1000}: {1}, {1, 3}: {0.25, 0.75}, {1, 2}: {third, float32(2) / 3}, {0, 0, 0, 0, 0, 9}: {0, 0, 0, 0, 0, 1}, {1, 1, 1, 0, 1}: {0.25, 0.25, 0.25, 0, 0.25},
		{1000, 1000, 1000, 1000, 1000, 1000}: {float32(1) / 6, float32(1) / 6, float32(1) / 6, float32(1) / 6, float32(1) / 6, float32(1) / 6}, {1000, 1}: {float32(1000) / 1001, float32(1) / 1001},
	}
	for d, wanted := range cases {
		want(t, "PartsOf", partsOf(t, fullShelf(), d), wanted)
	}
	r := newRandom(133)
	for range 300 {
		count := 1 + r.IntN(impl.MaxPigments)
		parts := partsOf(t, randomShelf(r, count), randomDrops(r, count, impl.MaxDrops))
		sum := 0.0
		for i, p := range parts {
			sum += float64(p)
			wantTrue(t, "no parts behind the pigments, nor less than 0", p >= 0 && p <= 1 && (i < count || same(p, 0)))
		}
		wantTrue(t, "parts add up to 1, nearly", near(sum, 1, 1e-6))
	}
}
