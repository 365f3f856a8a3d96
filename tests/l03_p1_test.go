package tests

import (
	"math"
	"math/rand/v2"
	"slices"
	"strconv"
	"strings"
	"testing"

	"loop.example/g01213/impl"
)

type namedPigment struct {
	name    string
	pigment impl.Pigment
}

type namedShelf struct {
	name  string
	shelf impl.Shelf
}

type namedDrops struct {
	name  string
	drops impl.Drops
}

func TestP1LimitsOfPigments(t *testing.T) {
	if impl.MaxPigments != 6 || impl.MaxDrops != 1000 || impl.MaxTin != 1000000000 || impl.MaxCost != 1000000 || impl.MaxRecipes != 500 || impl.MaxSteps != 64 {
		t.Error("the limits of chapter 3 are others")
	}
}

// notPigments have one thing that makes them not valid.
func notPigments() []namedPigment {
	var list []namedPigment
	for _, name := range []string{"", "abcdefghijklm", strings.Repeat("a", 1000), "A", "aB", "a b", "a ", " a", "a1", "`", "{", "a{", "a-b", "a_", "a\n", "\x00", "\xff", "\xe1", "é", "aé", "ａ"} {
		list = append(list, namedPigment{"the name " + strconv.Quote(name), flatPigment(name, 1, 1, 1)})
	}
	for _, cost := range []int64{-1, impl.MaxCost + 1, math.MinInt64, math.MaxInt64, 1 << 32} {
		list = append(list, namedPigment{"such a cost", flatPigment("a", 1, 1, cost)})
	}
	for i := range 16 {
		for _, a := range notAmounts() {
			k, s := flatPigment("a", 1, 1, 1), flatPigment("a", 1, 1, 1)
			k.K[i], s.S[i] = a, a
			list = append(list, namedPigment{"such a number of K", k}, namedPigment{"such a number of S", s})
		}
	}
	return list
}

func TestP1ValidPigments(t *testing.T) {
	for _, name := range []string{"a", "z", "az", "m", "abcdefghijkl", "zzzzzzzzzzzz", "nopqrstuvwxy"} {
		wantTrue(t, "a pigment with the name "+name, impl.ValidPigment(flatPigment(name, 1, 1, 1)))
	}
	for _, cost := range []int64{0, 1, impl.MaxCost - 1, impl.MaxCost} {
		wantTrue(t, "a pigment with such a cost", impl.ValidPigment(flatPigment("a", 1, 1, cost)))
	}
	for _, a := range []float32{0, minus0, tiniest, 1, largest} {
		for i := range 16 {
			k, s := flatPigment("a", 1, 1, 1), flatPigment("a", 1, 1, 1)
			k.K[i], s.S[i] = a, a
			wantTrue(t, "a pigment with a number at the ends", impl.ValidPigment(k) && impl.ValidPigment(s))
		}
	}
	for _, bad := range notPigments() {
		wantTrue(t, "a pigment is not valid by "+bad.name, !impl.ValidPigment(bad.pigment))
	}
	wantTrue(t, "the empty pigment is not valid", !impl.ValidPigment(impl.Pigment{}))
}

func TestP1ValidShelves(t *testing.T) {
	one := shelfOf(flatPigment("a", 0, 0, 0))
	for _, x := range []impl.Shelf{one, twoShelf(), fullShelf(), shelfOf(flatPigment("a", 1, 1, 1), flatPigment("aa", 1, 1, 1), flatPigment("aaa", 1, 1, 1))} {
		wantTrue(t, "a shelf is valid", impl.ValidShelf(x))
	}
	for _, tin := range []int32{0, 1, impl.MaxTin - 1, impl.MaxTin} {
		x := fullShelf()
		for i := range x.Tins {
			x.Tins[i] = tin
			wantTrue(t, "a shelf with a tin at the ends", impl.ValidShelf(x))
		}
	}
	for _, bad := range notShelves() {
		wantTrue(t, "a shelf is not valid by "+bad.name, !impl.ValidShelf(bad.shelf))
	}
}

// notShelves have one thing that makes them not valid.
func notShelves() []namedShelf {
	list := []namedShelf{{"no pigments", impl.Shelf{}}, {"an empty list", impl.Shelf{Pigments: []impl.Pigment{}}}}
	seven := fullShelf()
	seven.Pigments = append(seven.Pigments, flatPigment("seven", 1, 1, 1))
	many := impl.Shelf{Pigments: make([]impl.Pigment, 5000)}
	list = append(list, namedShelf{"one pigment more than MaxPigments", seven}, namedShelf{"many pigments", many})
	for i := range impl.MaxPigments {
		for j := range i {
			x := fullShelf()
			x.Pigments[i].Name = x.Pigments[j].Name
			list = append(list, namedShelf{"two equal names", x})
		}
		for _, tin := range []int32{-1, impl.MaxTin + 1, math.MinInt32, math.MaxInt32} {
			x := fullShelf()
			x.Tins[i] = tin
			list = append(list, namedShelf{"such a tin", x})
		}
	}
	for i := 2; i < impl.MaxPigments; i++ {
		for _, tin := range []int32{1, -1, impl.MaxTin} {
			x := twoShelf()
			x.Tins[i] = tin
			list = append(list, namedShelf{"a tin behind the pigments", x})
		}
	}
	for i, bad := range notPigments() {
		x := fullShelf()
		x.Pigments[i%impl.MaxPigments] = bad.pigment
		list = append(list, namedShelf{bad.name, x})
	}
	return list
}

// notDrops are not valid for a shelf of count pigments.
func notDrops(count int) []namedDrops {
	list := []namedDrops{{"none at all", impl.Drops{}}}
	for i := range impl.MaxPigments {
		for _, n := range []int16{-1, impl.MaxDrops + 1, math.MinInt16, math.MaxInt16} {
			d := impl.Drops{3, 2}
			d[i] = n
			list = append(list, namedDrops{"such a number", d})
		}
		if i >= count {
			d, alone := impl.Drops{3}, impl.Drops{}
			d[i], alone[i] = 1, 1
			list = append(list, namedDrops{"drops behind the pigments", d}, namedDrops{"only drops behind the pigments", alone})
		}
	}
	return append(list, namedDrops{"a sum of 0", impl.Drops{1, -1}}, namedDrops{"a negative sum", impl.Drops{-5}})
}

func TestP1ValidDrops(t *testing.T) {
	one := shelfOf(flatPigment("a", 0, 0, 0))
	for i := range impl.MaxPigments {
		for _, n := range []int16{1, 2, impl.MaxDrops - 1, impl.MaxDrops} {
			var d impl.Drops
			d[i] = n
			wantTrue(t, "drops of one pigment", impl.ValidDrops(fullShelf(), d))
			want(t, "drops of one pigment, for a shelf of one", impl.ValidDrops(one, d), i == 0)
			want(t, "drops of one pigment, for a shelf of two", impl.ValidDrops(twoShelf(), d), i < 2)
		}
	}
	wantTrue(t, "as many drops as can be", impl.ValidDrops(fullShelf(), impl.Drops{1000, 1000, 1000, 1000, 1000, 1000}))
	for _, bad := range notDrops(2) {
		wantTrue(t, "drops are not valid by "+bad.name, !impl.ValidDrops(twoShelf(), bad.drops))
	}
	for _, bad := range notDrops(6) {
		wantTrue(t, "drops are not valid by "+bad.name, !impl.ValidDrops(fullShelf(), bad.drops))
	}
}

// wantInvalidDrops asks for ErrInvalid wherever the drops are used for the shelf, with other arguments that are wrong, too.
func wantInvalidDrops(t *testing.T, name string, x impl.Shelf, d impl.Drops) {
	t.Helper()
	wantTrue(t, "ValidDrops, "+name, !impl.ValidDrops(x, d))
	parts, code := impl.PartsOf(x, d)
	wantNone(t, "PartsOf, "+name, parts, code, impl.ErrInvalid)
	layer, code := impl.MixDrops(x, d)
	wantNone(t, "MixDrops, "+name, layer, code, impl.ErrInvalid)
	curve, code := impl.PaintOf(x, d)
	wantNone(t, "PaintOf, "+name, curve, code, impl.ErrInvalid)
	look, code := impl.LookOfDrops(x, d, impl.Curve{})
	wantNone(t, "LookOfDrops, "+name, look, code, impl.ErrInvalid)
	cost, code := impl.CostOfDrops(x, d)
	wantNone(t, "CostOfDrops, "+name, cost, code, impl.ErrInvalid)
	times, code := impl.TimesInTins(x, d)
	wantNone(t, "TimesInTins, "+name, times, code, impl.ErrInvalid)
	rest, code := impl.TakeDrops(x, d)
	wantNoShelf(t, "TakeDrops, "+name, rest, code, impl.ErrInvalid)
	for _, e := range []impl.Drops{{1}, {1000}} {
		sum, code := impl.AddDrops(x, d, e)
		wantNone(t, "AddDrops, first, "+name, sum, code, impl.ErrInvalid)
		sum, code = impl.AddDrops(x, e, d)
		wantNone(t, "AddDrops, second, "+name, sum, code, impl.ErrInvalid)
	}
	for _, n := range []int64{0, 1, 1000, 1001} {
		product, code := impl.ScaleDrops(x, d, n)
		wantNone(t, "ScaleDrops, "+name, product, code, impl.ErrInvalid)
	}
	least, code := impl.ReduceDrops(x, d)
	wantNone(t, "ReduceDrops, "+name, least, code, impl.ErrInvalid)
}

func TestP1DropsThatAreNotValid(t *testing.T) {
	for _, bad := range notDrops(2) {
		wantInvalidDrops(t, bad.name, twoShelf(), bad.drops)
	}
	for _, bad := range notDrops(6) {
		wantInvalidDrops(t, bad.name, fullShelf(), bad.drops)
	}
}

func TestP1ShelvesThatAreNotValid(t *testing.T) {
	for _, bad := range notShelves() {
		x := bad.shelf
		for _, d := range []impl.Drops{{1}, {1000, 999}, {}, {-1}} {
			wantInvalidDrops(t, bad.name, x, d)
		}
		for _, name := range []string{"a", "", "missing"} {
			at, code := impl.FindPigment(x, name)
			wantNone(t, "FindPigment, "+bad.name, at, code, impl.ErrInvalid)
		}
		for _, parts := range []impl.Parts{{1}, {-1}, {nan}, {0, 0, 0, 0, 0, 1}, {}} {
			layer, code := impl.MixParts(x, parts)
			wantNone(t, "MixParts, "+bad.name, layer, code, impl.ErrInvalid)
		}
		for _, n := range []int64{-1, 0, 1, impl.MaxTin, impl.MaxTin + 1} {
			filled, code := impl.FillTin(x, 0, n)
			wantNoShelf(t, "FillTin, "+bad.name, filled, code, impl.ErrInvalid)
			ladder, code := impl.LadderOf(x, 0, 1, n)
			wantNoList(t, "LadderOf, "+bad.name, ladder, code, impl.ErrInvalid)
			ladder, code = impl.LadderOf(x, n, n, 0)
			wantNoList(t, "LadderOf, "+bad.name, ladder, code, impl.ErrInvalid)
		}
		for _, a := range []float32{0.5, nan} {
			at, code := impl.NearestPigment(x, impl.FlatCurve(a))
			wantNone(t, "NearestPigment, "+bad.name, at, code, impl.ErrInvalid)
		}
		want(t, "ShelfText, "+bad.name, impl.ShelfText(x), "")
	}
}

func TestP1SameShelves(t *testing.T) {
	wantTrue(t, "no list and an empty one", impl.SameShelf(impl.Shelf{}, impl.Shelf{Pigments: []impl.Pigment{}}))
	r := newRandom(111)
	for range 50 {
		x := randomShelf(r, 1+r.IntN(impl.MaxPigments))
		for i := range x.Pigments {
			x.Pigments[i].K, x.Pigments[i].S = anyCurve(r), anyCurve(r)
		}
		wantTrue(t, "a shelf is the same as its copy", impl.SameShelf(x, copyOfShelf(x)))
		for _, y := range othersThan(r, x) {
			wantTrue(t, "another shelf", !impl.SameShelf(x, y) && !impl.SameShelf(y, x))
		}
	}
	nans := shelfOf(flatPigment("a", nan, -nan, -5))
	wantTrue(t, "NaN in shelves", impl.SameShelf(nans, shelfOf(flatPigment("a", math.Float32frombits(0xffffffff), nan, -5))))
	for _, bad := range notShelves() {
		wantTrue(t, "shelves that are not valid may be the same", impl.SameShelf(bad.shelf, copyOfShelf(bad.shelf)))
	}
}

// othersThan differ in one thing.
func othersThan(r *rand.Rand, x impl.Shelf) []impl.Shelf {
	shorter, longer := copyOfShelf(x), copyOfShelf(x)
	shorter.Pigments = shorter.Pigments[1:]
	longer.Pigments = append(longer.Pigments, impl.Pigment{})
	list := []impl.Shelf{shorter, longer, {Tins: x.Tins}}
	for i := range x.Pigments {
		name, cost, k, s, at := copyOfShelf(x), copyOfShelf(x), copyOfShelf(x), copyOfShelf(x), r.IntN(16)
		name.Pigments[i].Name += "x"
		cost.Pigments[i].Cost++
		k.Pigments[i].K[at] = otherNumber(x.Pigments[i].K[at])
		s.Pigments[i].S[at] = otherNumber(x.Pigments[i].S[at])
		list = append(list, name, cost, k, s)
	}
	for i := range x.Tins {
		tin := copyOfShelf(x)
		tin.Tins[i]++
		list = append(list, tin)
	}
	if len(x.Pigments) > 1 {
		turned := copyOfShelf(x)
		slices.Reverse(turned.Pigments)
		list = append(list, turned)
	}
	return list
}

func TestP1ErrorsOfMixtures(t *testing.T) {
	strong := shelfOf(flatPigment("a", largest, 1, 1), flatPigment("b", 1, largest, 1))
	for i := range impl.MaxPigments {
		for _, a := range notAmounts() {
			parts := impl.Parts{largest, largest} // which would be ErrState
			parts[i] = a
			layer, code := impl.MixParts(strong, parts)
			wantNone(t, "MixParts such a part", layer, code, impl.ErrRange)
		}
		for _, a := range []float32{tiniest, 1, largest} {
			parts := impl.Parts{largest, largest}
			parts[i] = a
			layer, code := impl.MixParts(strong, parts)
			wanted := int64(impl.ErrRange)
			if i < 2 {
				wanted = impl.ErrState
			}
			wantNone(t, "MixParts behind the pigments", layer, code, wanted)
		}
		if i >= 2 {
			for _, a := range []float32{0, minus0} {
				parts := impl.Parts{0.5, 0.5}
				parts[i] = a
				wantLayer(t, "MixParts with nothing behind the pigments", mixParts(t, twoShelf(), parts), flatLayer(0.5, 1, 1))
			}
		}
	}
	cases := []struct {
		name  string
		parts impl.Parts
	}{
		{"too great a K", impl.Parts{2, 0}}, {"too great an S", impl.Parts{0, 2}}, {"too great a sum of K", impl.Parts{1, largest}}, {"too great a sum of S", impl.Parts{largest, 1}},
		{"a little too great", impl.Parts{math.Nextafter32(1, 2), 0}},
	}
	for _, c := range cases {
		layer, code := impl.MixParts(strong, c.parts)
		wantNone(t, "MixParts, "+c.name, layer, code, impl.ErrState)
	}
	wantLayer(t, "MixParts of the greatest numbers", mixParts(t, strong, impl.Parts{1, 1}), flatLayer(largest, largest, 1))
	for i := range 16 {
		x := shelfOf(flatPigment("a", 1, 1, 1))
		x.Pigments[0].S[i] = largest
		layer, code := impl.MixParts(x, impl.Parts{1.5})
		wantNone(t, "MixParts, too great at one wavelength", layer, code, impl.ErrState)
	}
}

// dimShelf has a pigment of which the ratio is not finite, unless there is enough of the other one.
func dimShelf() impl.Shelf {
	return shelfOf(flatPigment("dim", largest, 0.5, 1), flatPigment("clear", 0, 1000, 1))
}

func TestP1ErrorsOfPaints(t *testing.T) {
	light := impl.FlatCurve(1)
	for _, d := range []impl.Drops{{1}, {1000}, {1000, 0}} {
		curve, code := impl.PaintOf(dimShelf(), d)
		wantNone(t, "PaintOf what is not finite", curve, code, impl.ErrState)
		look, code := impl.LookOfDrops(dimShelf(), d, light)
		wantNone(t, "LookOfDrops of what is not finite", look, code, impl.ErrState)
		layer, code := impl.MixDrops(dimShelf(), d)
		wantFound(t, "MixDrops does not ask for ratios", layer, code, flatLayer(largest, 0.5, 1))
	}
	wantCurve(t, "PaintOf, finite by the other pigment", paintOf(t, dimShelf(), impl.Drops{1, 1}), impl.Curve{})
	// A third, narrow, is a little more than a third: three of them make the greatest number too great.
	large := shelfOf(flatPigment("a", largest, 1, 1), flatPigment("b", largest, 1, 1), flatPigment("c", largest, 1, 1))
	wanted := oracleMixed(large, impl.Parts{1. / 3, 1. / 3, 1. / 3})
	layer, code := impl.MixDrops(large, impl.Drops{1, 1, 1})
	if math.IsInf(float64(wanted.K[0]), 0) {
		wantNone(t, "MixDrops too great by its roundings", layer, code, impl.ErrState)
	} else {
		wantFound(t, "MixDrops of the greatest numbers", layer, code, wanted)
	}
	for _, a := range []float32{0, minus0, nan, infinite, largest} {
		look, code := impl.LookOfDrops(twoShelf(), impl.Drops{1}, impl.FlatCurve(a))
		wantNone(t, "LookOfDrops under such a light", look, code, impl.ErrState)
	}
}

func TestP1ErrorsOfTins(t *testing.T) {
	x := fullShelf()
	for _, pigment := range []int64{-1, impl.MaxPigments, 1 << 32, math.MinInt64, math.MaxInt64} {
		filled, code := impl.FillTin(x, pigment, 1)
		wantNoShelf(t, "FillTin of no pigment", filled, code, impl.ErrRange)
	}
	filled, code := impl.FillTin(twoShelf(), 2, 1)
	wantNoShelf(t, "FillTin behind the pigments", filled, code, impl.ErrRange)
	for _, n := range []int64{-1, impl.MaxTin + 1, 1 << 32, math.MinInt64, math.MaxInt64} {
		for i := range int64(impl.MaxPigments) {
			filled, code := impl.FillTin(x, i, n)
			wantNoShelf(t, "FillTin such a count", filled, code, impl.ErrRange)
		}
	}
	for pigment, n := range []int64{1, impl.MaxTin, impl.MaxTin - 999, impl.MaxTin, 2, impl.MaxTin - 11} {
		filled, code := impl.FillTin(x, int64(pigment), n)
		if pigment == 1 {
			wantCode(t, "FillTin an empty tin", code, impl.OK)
			want(t, "FillTin an empty tin", filled.Tins[1], impl.MaxTin)
			continue
		}
		wantNoShelf(t, "FillTin with one drop too many", filled, code, impl.ErrLimit)
		filled, code = impl.FillTin(x, int64(pigment), n-1)
		wantCode(t, "FillTin up to MaxTin", code, impl.OK)
		want(t, "FillTin up to MaxTin", filled.Tins[pigment], impl.MaxTin)
	}
}

func TestP1ErrorsOfTakenDrops(t *testing.T) {
	x := fullShelf()
	for _, d := range []impl.Drops{{0, 1}, {0, 0, 1000, 2}, {0, 0, 0, 0, 0, 13}, {1, 1, 1, 1, 1, 1}, {0, 0, 0, 1000}} {
		rest, code := impl.TakeDrops(x, d)
		wantNoShelf(t, "TakeDrops of a tin that has too few", rest, code, impl.ErrNotFound)
		times, code := impl.TimesInTins(x, d)
		wantFound(t, "TimesInTins of a tin that has too few", times, code, 0)
	}
}

func TestP1ErrorsOfSumsAndProducts(t *testing.T) {
	x := fullShelf()
	for i := range impl.MaxPigments {
		d, e := impl.Drops{1, 1, 1, 1, 1, 1}, impl.Drops{1, 1, 1, 1, 1, 1}
		d[i], e[i] = 400, 601
		sum, code := impl.AddDrops(x, d, e)
		wantNone(t, "AddDrops, one too many", sum, code, impl.ErrLimit)
		d[i], e[i] = impl.MaxDrops, impl.MaxDrops
		sum, code = impl.AddDrops(x, d, e)
		wantNone(t, "AddDrops, twice MaxDrops", sum, code, impl.ErrLimit)
		for _, n := range []int64{2, 3, 64, 66, 131, 1000} { // some products would be small if they were narrow
			product, code := impl.ScaleDrops(x, d, n)
			wantNone(t, "ScaleDrops of MaxDrops", product, code, impl.ErrLimit)
		}
		d[i] = 501
		product, code := impl.ScaleDrops(x, d, 2)
		wantNone(t, "ScaleDrops, two too many", product, code, impl.ErrLimit)
		d[i] = 334
		product, code = impl.ScaleDrops(x, d, 3)
		wantNone(t, "ScaleDrops, two too many", product, code, impl.ErrLimit)
		d[i] = 7
		product, code = impl.ScaleDrops(x, d, 143)
		wantNone(t, "ScaleDrops, one too many", product, code, impl.ErrLimit)
	}
	for _, n := range []int64{0, -1, impl.MaxDrops + 1, 65537, 1<<32 + 1, math.MinInt64, math.MaxInt64} {
		for _, d := range []impl.Drops{{1}, {1000}} {
			product, code := impl.ScaleDrops(x, d, n)
			wantNone(t, "ScaleDrops by such a number", product, code, impl.ErrRange)
		}
	}
}

func TestP1ErrorsOfAllDrops(t *testing.T) {
	for _, n := range []int64{0, -1, 7, 1 << 32, 1<<32 + 1, math.MinInt64, math.MaxInt64} {
		for _, total := range []int64{0, 1, 20, 1000} {
			list, code := impl.AllDrops(n, total)
			wantNoList(t, "AllDrops of such a count", list, code, impl.ErrRange)
		}
	}
	for _, total := range []int64{0, -1, impl.MaxDrops + 1, 1<<16 + 1, 1<<32 + 1, math.MinInt64, math.MaxInt64} {
		for count := range int64(8) {
			list, code := impl.AllDrops(count, total)
			wantNoList(t, "AllDrops of such a total", list, code, impl.ErrRange)
		}
	}
}

func TestP1ErrorsOfLadders(t *testing.T) {
	x := twoShelf()
	out := []int64{-1, 2, 6, 1 << 32, math.MinInt64, math.MaxInt64}
	for _, a := range out {
		for _, b := range []int64{0, 1, a} {
			ladder, code := impl.LadderOf(x, a, b, 4)
			wantNoList(t, "LadderOf no such pigment", ladder, code, impl.ErrRange)
			ladder, code = impl.LadderOf(x, b, a, 4)
			wantNoList(t, "LadderOf no such pigment", ladder, code, impl.ErrRange)
		}
	}
	for _, steps := range []int64{0, -1, impl.MaxSteps + 1, 1<<16 + 1, 1<<32 + 1, math.MinInt64, math.MaxInt64} {
		ladder, code := impl.LadderOf(x, 0, 1, steps)
		wantNoList(t, "LadderOf so many steps", ladder, code, impl.ErrRange)
		ladder, code = impl.LadderOf(dimShelf(), 0, 1, steps)
		wantNoList(t, "LadderOf so many steps, not finite", ladder, code, impl.ErrRange)
	}
	for i := range int64(2) {
		ladder, code := impl.LadderOf(x, i, i, 4)
		wantNoList(t, "LadderOf a pigment and itself", ladder, code, impl.ErrRange)
		ladder, code = impl.LadderOf(dimShelf(), i, i, 4)
		wantNoList(t, "LadderOf a pigment and itself, not finite", ladder, code, impl.ErrRange)
	}
	for _, steps := range []int64{1, 2, impl.MaxSteps} {
		ladder, code := impl.LadderOf(dimShelf(), 0, 1, steps)
		wantNoList(t, "LadderOf what is not finite at first", ladder, code, impl.ErrState)
		ladder, code = impl.LadderOf(dimShelf(), 1, 0, steps)
		wantNoList(t, "LadderOf what is not finite at last", ladder, code, impl.ErrState)
	}
}

func TestP1ErrorsOfNearness(t *testing.T) {
	for _, a := range []float32{nan, infinite, -infinite, largest, -largest, 1e20, 0x1p62} {
		at, code := impl.NearestPigment(twoShelf(), impl.FlatCurve(a))
		wantNone(t, "NearestPigment to such a curve", at, code, impl.ErrNotFound)
	}
	for i := range 16 {
		at, code := impl.NearestPigment(fullShelf(), flatBut(0.5, i, nan))
		wantNone(t, "NearestPigment to a curve with NaN", at, code, impl.ErrNotFound)
	}
	dark := flatPigment("dark", largest, 0.5, 1)
	at, code := impl.NearestPigment(shelfOf(dark), impl.FlatCurve(0))
	wantNone(t, "NearestPigment of one that has an error", at, code, impl.ErrNotFound)
	for i := range 16 {
		dark = flatPigment("dark", 1, 1, 1)
		dark.K[i], dark.S[i] = largest, tiniest
		at, code = impl.NearestPigment(shelfOf(dark, flatPigment("white", 0, 1, 1), dark2()), impl.Curve{})
		wantFound(t, "NearestPigment beside those that have errors", at, code, 1)
	}
}

func dark2() impl.Pigment { return flatPigment("darker", 1, tiniest, 1) }

func TestP1ErrorsOfFinding(t *testing.T) {
	for _, name := range []string{"", "c", "abc", "abcdefghijk", "abcdefghijklm", "A", "a ", "zz", "zzzzzzzzzzz", strings.Repeat("a", 100000)} {
		at, code := impl.FindPigment(fullShelf(), name)
		wantNone(t, "FindPigment "+name[:min(20, len(name))], at, code, impl.ErrNotFound)
	}
}

// A shelf, and what lies behind its pigments, is neither changed nor kept.
func TestP1ShelvesAreLeft(t *testing.T) {
	r := newRandom(112)
	room := randomShelf(r, impl.MaxPigments).Pigments
	x := impl.Shelf{Pigments: room[:3], Tins: [6]int32{100, 100, 100}}
	kept := impl.Shelf{Pigments: append([]impl.Pigment(nil), room...), Tins: x.Tins}
	first := shelfResultsOf(x, impl.Drops{1, 2, 3}, impl.FlatCurve(0.5))
	rest, _ := impl.TakeDrops(x, impl.Drops{1, 2, 3})
	filled, _ := impl.FillTin(x, 1, 5)
	nothing, _ := impl.FillTin(x, 1, 0)
	for _, y := range []impl.Shelf{rest, filled, nothing} {
		spoil(y.Pigments[:cap(y.Pigments)])
	}
	wantTrue(t, "a shelf that is passed in is not changed", sameShelf(impl.Shelf{Pigments: room, Tins: x.Tins}, kept))
	rest, code := impl.TakeDrops(x, impl.Drops{1, 2, 3})
	wantCode(t, "TakeDrops", code, impl.OK)
	filled, _ = impl.FillTin(x, 1, 5)
	spoil(room)
	wanted := copyOfShelf(impl.Shelf{Pigments: kept.Pigments[:3]})
	wanted.Tins = [6]int32{99, 98, 97}
	wantShelf(t, "a shelf that is returned is not changed", rest, code, wanted)
	wanted.Tins = [6]int32{100, 105, 100}
	wantShelf(t, "a shelf that is returned is not changed", filled, code, wanted)
	again := shelfResultsOf(impl.Shelf{Pigments: kept.Pigments[:3], Tins: x.Tins}, impl.Drops{1, 2, 3}, impl.FlatCurve(0.5))
	wantTrue(t, "equal shelves have equal results", slices.Equal(first, again))
}

func spoil(list []impl.Pigment) {
	for i := range list {
		list[i] = impl.Pigment{Name: "spoilt"}
	}
}

func TestP1ListsHaveTheirOwnMemory(t *testing.T) {
	first, _ := impl.AllDrops(3, 4)
	second, code := impl.AllDrops(3, 4)
	kept := slices.Clone(second)
	for i := range first {
		first[i] = impl.Drops{9}
	}
	wantCode(t, "AllDrops", code, impl.OK)
	wantTrue(t, "lists of drops have memory of their own", slices.Equal(second, kept))
	x := twoShelf()
	ladder, _ := impl.LadderOf(x, 0, 1, 4)
	other, code := impl.LadderOf(x, 0, 1, 4)
	clear(ladder)
	again, _ := impl.LadderOf(x, 0, 1, 4)
	wantCode(t, "LadderOf", code, impl.OK)
	wantTrue(t, "ladders have memory of their own", slices.Equal(other, again))
	text := impl.ShelfText(x)
	y, _ := impl.ReadShelf(text)
	spoil(y.Pigments)
	z, code := impl.ReadShelf(text)
	wantShelf(t, "shelves that are read have memory of their own", z, code, x)
}

// Arguments of any kind have equal results, and none makes a function panic.
func TestP1EqualResultsOfPigments(t *testing.T) {
	r := newRandom(113)
	for n := range 400 {
		x := randomShelf(r, r.IntN(impl.MaxPigments+1))
		if n%3 == 0 {
			for i := range x.Pigments {
				x.Pigments[i].K = anyCurve(r)
			}
		}
		if n%5 == 0 {
			x.Tins[r.IntN(6)] = int32(r.Uint32())
		}
		d := randomDrops(r, 6, 1100)
		if n%2 == 0 && len(x.Pigments) > 0 {
			d = randomDrops(r, len(x.Pigments), 1000)
		}
		if n%7 == 0 {
			d[r.IntN(6)] = int16(r.Uint32())
		}
		c := randomCurve(r, 0, 1)
		first, second := shelfResultsOf(x, d, c), shelfResultsOf(copyOfShelf(x), d, c)
		wantTrue(t, "the results of a second call", slices.Equal(first, second))
	}
}

// shelfResultsOf has the bits of all that the functions of chapter 3 tell of these arguments.
func shelfResultsOf(x impl.Shelf, d impl.Drops, c impl.Curve) []int64 {
	var list []int64
	number := func(n, code int64) { list = append(list, n, code) }
	curve := func(c impl.Curve, code int64) {
		for _, a := range c {
			number(int64(math.Float32bits(a)), code)
		}
	}
	drops := func(d impl.Drops, code int64) {
		for _, n := range d {
			number(int64(n), code)
		}
	}
	layer := func(x impl.Layer, code int64) {
		curve(x.K, code)
		curve(x.S, int64(math.Float32bits(x.Thick)))
	}
	shelf := func(x impl.Shelf, code int64) {
		for i, n := range x.Tins {
			number(int64(n), int64(i))
		}
		number(int64(len(impl.ShelfText(x))), code)
	}
	number(impl.FindPigment(x, "a"))
	number(impl.CostOfDrops(x, d))
	number(impl.TimesInTins(x, d))
	number(impl.NearestPigment(x, c))
	number(impl.TotalDrops(d), int64(len(impl.DropsText(d))))
	layer(impl.MixDrops(x, d))
	layer(impl.MixParts(x, impl.Parts(c[:6])))
	curve(impl.PaintOf(x, d))
	drops(impl.AddDrops(x, d, d))
	drops(impl.ScaleDrops(x, d, int64(d[0])))
	drops(impl.ReduceDrops(x, d))
	shelf(impl.TakeDrops(x, d))
	shelf(impl.FillTin(x, int64(d[1]), int64(d[2])))
	parts, code := impl.PartsOf(x, d)
	look, other := impl.LookOfDrops(x, d, c)
	curve(impl.Curve(append(slices.Concat(parts[:], look[:]), make([]float32, 7)...)), 10*code+other)
	ladder, code := impl.LadderOf(x, int64(d[3]), int64(d[4]), int64(d[5]))
	for _, c := range ladder {
		curve(c, code)
	}
	return list
}
