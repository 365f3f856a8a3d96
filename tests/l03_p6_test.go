package tests

import (
	"slices"
	"testing"

	"loop.example/g01213/impl"
)

func TestP6WhatIsTakenAndFilledAgainIsThere(t *testing.T) {
	r := newRandom(121)
	for range 300 {
		count := 1 + r.IntN(impl.MaxPigments)
		x, d := randomShelf(r, count), randomDrops(r, count, impl.MaxDrops)
		for i := range count {
			x.Tins[i] = r.Int32N(3000)
		}
		kept := copyOfShelf(x)
		rest, code := impl.TakeDrops(x, d)
		wantShelf(t, "a shelf behind TakeDrops", x, impl.OK, kept)
		if code != impl.OK {
			wantNoShelf(t, "TakeDrops", rest, code, impl.ErrNotFound)
			wantTrue(t, "a tin has too few", hasTooFew(x, d))
			continue
		}
		wantTrue(t, "no tin has too few", !hasTooFew(x, d))
		wanted := copyOfShelf(x)
		for i, n := range d {
			wanted.Tins[i] -= int32(n)
		}
		wantShelf(t, "TakeDrops", rest, code, wanted)
		for i := range count {
			rest, code = impl.FillTin(rest, int64(i), int64(d[i]))
			wantCode(t, "FillTin", code, impl.OK)
		}
		wantShelf(t, "a shelf that is filled again", rest, code, x)
	}
}

func hasTooFew(x impl.Shelf, d impl.Drops) bool {
	for i, n := range d {
		if int32(n) > x.Tins[i] {
			return true
		}
	}
	return false
}

// So many times, and no more, can the drops be taken.
func TestP6TimesInTins(t *testing.T) {
	r := newRandom(122)
	for range 200 {
		count := 1 + r.IntN(impl.MaxPigments)
		x, d := randomShelf(r, count), randomDrops(r, count, 60)
		for i := range count {
			x.Tins[i] = r.Int32N(1000)
		}
		times, code := impl.TimesInTins(x, d)
		wantCode(t, "TimesInTins", code, impl.OK)
		for range times {
			if x, code = impl.TakeDrops(x, d); code != impl.OK {
				t.Fatalf("TakeDrops %d times: got the code %d", times, code)
			}
		}
		rest, code := impl.TakeDrops(x, d)
		wantNoShelf(t, "TakeDrops once more", rest, code, impl.ErrNotFound)
	}
	full := fullShelf()
	cases := []struct {
		drops impl.Drops
		times int64
	}{
		{impl.Drops{1}, impl.MaxTin}, {impl.Drops{1000}, 1000000}, {impl.Drops{999}, 1001001}, {impl.Drops{0, 1}, 0}, {impl.Drops{0, 0, 1000}, 1}, {impl.Drops{0, 0, 999}, 1}, {impl.Drops{0, 0, 501}, 1},
		{impl.Drops{0, 0, 500}, 2}, {impl.Drops{0, 0, 0, 1}, 1}, {impl.Drops{0, 0, 0, 2}, 0}, {impl.Drops{1, 0, 0, 0, 1}, 999999999}, {impl.Drops{0, 0, 0, 0, 2}, 499999999}, {impl.Drops{7, 0, 3, 0, 2, 5}, 2},
		{impl.Drops{1000, 0, 1000, 0, 0, 12}, 1}, {impl.Drops{1000, 0, 1000, 0, 0, 13}, 0},
	}
	for _, c := range cases {
		times, code := impl.TimesInTins(full, c.drops)
		wantFound(t, "TimesInTins", times, code, c.times)
	}
}

func TestP6FullAndEmptyTins(t *testing.T) {
	for i := range int64(impl.MaxPigments) {
		x := fullShelf()
		x.Tins[i] = 0
		filled, code := impl.FillTin(x, i, impl.MaxTin)
		wanted := copyOfShelf(x)
		wanted.Tins[i] = impl.MaxTin
		wantShelf(t, "FillTin up to MaxTin at once", filled, code, wanted)
		same, code := impl.FillTin(filled, i, 0)
		wantShelf(t, "FillTin with nothing", same, code, filled)
		var d impl.Drops
		d[i] = impl.MaxDrops
		rest, code := impl.TakeDrops(filled, d)
		wanted.Tins[i] = impl.MaxTin - impl.MaxDrops
		wantShelf(t, "TakeDrops from a full tin", rest, code, wanted)
		x.Tins[i] = impl.MaxDrops
		rest, code = impl.TakeDrops(x, d)
		wanted.Tins[i] = 0
		wantShelf(t, "TakeDrops of all there are", rest, code, wanted)
	}
}

func TestP6PigmentsAreFound(t *testing.T) {
	r := newRandom(123)
	for range 50 {
		x := randomShelf(r, 1+r.IntN(impl.MaxPigments))
		for i, p := range x.Pigments {
			at, code := impl.FindPigment(x, p.Name)
			wantFound(t, "FindPigment", at, code, int64(i))
		}
	}
	for i, p := range fullShelf().Pigments {
		at, code := impl.FindPigment(fullShelf(), p.Name)
		wantFound(t, "FindPigment "+p.Name, at, code, int64(i))
	}
}

func TestP6Costs(t *testing.T) {
	dear := fullShelf()
	for i := range dear.Pigments {
		dear.Pigments[i].Cost = impl.MaxCost
	}
	cost, code := impl.CostOfDrops(dear, impl.Drops{1000, 1000, 1000, 1000, 1000, 1000})
	wantFound(t, "the greatest cost", cost, code, 6000000000)
	cost, code = impl.CostOfDrops(fullShelf(), impl.Drops{1000, 0, 1000, 100, 10, 1})
	wantFound(t, "CostOfDrops", cost, code, 5000+700+110+13)
	cost, code = impl.CostOfDrops(fullShelf(), impl.Drops{1000})
	wantFound(t, "CostOfDrops that cost nothing", cost, code, 0)
	r := newRandom(124)
	for range 200 {
		count := 1 + r.IntN(impl.MaxPigments)
		x, d := randomShelf(r, count), randomDrops(r, count, impl.MaxDrops)
		var wanted int64
		for i, p := range x.Pigments {
			wanted += p.Cost * int64(d[i])
		}
		cost, code := impl.CostOfDrops(x, d)
		wantFound(t, "CostOfDrops", cost, code, wanted)
	}
}

func TestP6DropsAreReadFromTheirTexts(t *testing.T) {
	texts := map[string]impl.Drops{
		"0-0-0-0-0-0": {}, "1-3-0-0-0-0": {1, 3}, "1000-1000-1000-1000-1000-1000": {1000, 1000, 1000, 1000, 1000, 1000}, "0-0-0-0-0-10": {0, 0, 0, 0, 0, 10}, "999-1-22-333-4-505": {999, 1, 22, 333, 4, 505},
	}
	for text, d := range texts {
		want(t, "DropsText", impl.DropsText(d), text)
		back, code := impl.ReadDrops(text)
		wantFound(t, "ReadDrops "+text, back, code, d)
	}
	for i := range impl.MaxPigments {
		for n := range int16(impl.MaxDrops + 1) {
			d := impl.Drops{5, 0, 17, 1000, 1, 100}
			d[i] = n
			back, code := impl.ReadDrops(impl.DropsText(d))
			wantFound(t, "ReadDrops of DropsText", back, code, d)
		}
		for _, n := range []int16{-1, -1000, -32768, 1001, 2000, 32767} {
			d := impl.Drops{5, 0, 17, 1000, 1, 100}
			d[i] = n
			want(t, "DropsText of other numbers", impl.DropsText(d), "")
		}
	}
}

func TestP6ShelvesAreReadFromTheirTexts(t *testing.T) {
	x := twoShelf()
	x.Pigments[1].K[15], x.Pigments[1].S[0] = minus0, largest
	one, none := impl.CurveText(impl.FlatCurve(1)), impl.CurveText(impl.Curve{})
	text := "pigment white 1 10\n" + none + "\n" + one + "\npigment black 3 9\n" + one[:135] + "80000000\n7f7fffff" + one[8:] + "\n"
	want(t, "ShelfText", impl.ShelfText(x), text)
	r := newRandom(125)
	list := []impl.Shelf{x, fullShelf(), shelfOf(impl.Pigment{Name: "a"}), shelfOf(flatPigment("zzzzzzzzzzzz", largest, tiniest, impl.MaxCost))}
	for range 100 {
		list = append(list, randomShelf(r, 1+r.IntN(impl.MaxPigments)))
	}
	for _, x := range list {
		text := impl.ShelfText(x)
		y, code := impl.ReadShelf(text)
		wantShelf(t, "ReadShelf of ShelfText", y, code, x)
		want(t, "ShelfText of what has been read", impl.ShelfText(y), text)
	}
}

func TestP6TotalsOfAnyDrops(t *testing.T) {
	totals := map[impl.Drops]int64{
		{}: 0, {1, 3}: 4, {1000, 1000, 1000, 1000, 1000, 1000}: 6000, {-5, 2}: -3, {32767, 32767, 32767, 32767, 32767, 32767}: 196602, {-32768, -32768, -32768, -32768, -32768, -32768}: -196608,
		{32767, 1}: 32768, {-32768, -1}: -32769, {0, 0, 0, 0, 0, 7}: 7, {1, 10, 100, 1000, 10000, -11111}: 0,
	}
	for d, total := range totals {
		want(t, "TotalDrops", impl.TotalDrops(d), total)
	}
}

func TestP6Sums(t *testing.T) {
	x := fullShelf()
	sum, code := impl.AddDrops(x, impl.Drops{400, 0, 1, 1000, 0, 999}, impl.Drops{600, 1000, 2, 0, 0, 1})
	wantFound(t, "AddDrops up to MaxDrops", sum, code, impl.Drops{1000, 1000, 3, 1000, 0, 1000})
	r := newRandom(126)
	for range 200 {
		count := 1 + r.IntN(impl.MaxPigments)
		x, d, e := randomShelf(r, count), randomDrops(r, count, 500), randomDrops(r, count, 500)
		var wanted impl.Drops
		for i := range wanted {
			wanted[i] = d[i] + e[i]
		}
		sum, code := impl.AddDrops(x, d, e)
		wantFound(t, "AddDrops", sum, code, wanted)
		turned, code := impl.AddDrops(x, e, d)
		wantFound(t, "AddDrops turned", turned, code, wanted)
		wantTrue(t, "sums are valid", impl.ValidDrops(x, sum) && slices.Max(sum[:]) <= impl.MaxDrops)
	}
}
