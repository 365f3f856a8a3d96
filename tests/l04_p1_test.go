package tests

import (
	"math"
	"slices"
	"testing"

	"loop.example/g01213/impl"
)

func TestP1LimitsOfMatching(t *testing.T) {
	if impl.MaxSweeps != 40 || impl.MaxLights != 8 || impl.MaxAdded != 20 {
		t.Error("the limits of chapter 4 are others")
	}
}

// wantCodeOfParts asks for a code wherever parts are used; the other arguments are right.
func wantCodeOfParts(t *testing.T, name string, x impl.Shelf, parts impl.Parts, wanted int64) {
	t.Helper()
	light := impl.FlatCurve(1)
	c, code := impl.CurveOfParts(x, parts)
	wantNone(t, "CurveOfParts, "+name, c, code, wanted)
	for _, target := range []impl.Curve{{}, impl.FlatCurve(nan)} {
		off, code := impl.OffOfParts(x, parts, target)
		wantNone(t, "OffOfParts, "+name, off, code, wanted)
		off, code = impl.LookOffOfParts(x, parts, target, impl.Three{})
		wantNone(t, "LookOffOfParts, "+name, off, code, wanted)
		is, code := impl.IsMatched(x, parts, target, 0.5)
		wantNone(t, "IsMatched, "+name, is, code, wanted)
	}
	off, code := impl.LookOffOfParts(x, parts, light, impl.Three{nan, nan, nan})
	wantNone(t, "LookOffOfParts, "+name, off, code, wanted)
}

// wantCodeOfShifts asks for a code where it does not matter what parts reflect, also with other arguments that are out of their ranges.
func wantCodeOfShifts(t *testing.T, name string, x impl.Shelf, parts impl.Parts, wanted int64) {
	t.Helper()
	for _, amount := range []float32{0.5, nan, -1} {
		for _, to := range []int64{0, 1, 7} {
			shifted, code := impl.ShiftParts(x, parts, 0, to, amount)
			wantNone(t, "ShiftParts, "+name, shifted, code, wanted)
		}
		is, code := impl.IsMatched(x, parts, impl.FlatCurve(1), amount)
		wantNone(t, "IsMatched, "+name, is, code, wanted)
	}
	for _, total := range []int64{0, 1, impl.MaxDrops, impl.MaxDrops + 1} {
		d, code := impl.DropsFor(x, parts, total)
		wantNone(t, "DropsFor, "+name, d, code, wanted)
	}
}

func TestP1PartsThatCannotBeMixed(t *testing.T) {
	strong := shelfOf(flatPigment("a", largest, 1, 1), flatPigment("b", 1, largest, 1))
	for i := range impl.MaxPigments {
		for _, a := range notAmounts() {
			parts := impl.Parts{largest, largest} // which would be ErrState
			parts[i] = a
			wantCodeOfParts(t, "such a part", strong, parts, impl.ErrRange)
			wantCodeOfShifts(t, "such a part", strong, parts, impl.ErrRange)
		}
		if i >= 2 {
			parts := impl.Parts{0.5, 0.5}
			parts[i] = tiniest
			wantCodeOfParts(t, "a part behind the pigments", strong, parts, impl.ErrRange)
			wantCodeOfShifts(t, "a part behind the pigments", strong, parts, impl.ErrRange)
		}
	}
	for _, nothing := range []impl.Parts{{}, {minus0}, {0, minus0}, {minus0, minus0, minus0, minus0, minus0, minus0}} {
		for _, x := range []impl.Shelf{strong, fullShelf(), greys(1)} {
			wantCodeOfParts(t, "all parts are 0", x, nothing, impl.ErrRange)
			wantCodeOfShifts(t, "all parts are 0", x, nothing, impl.ErrRange)
		}
	}
	for _, a := range []float32{0, minus0} {
		parts := impl.Parts{0, 0.5, a, a, a, a}
		wantCurve(t, "nothing behind the pigments", curveOfParts(t, twoShelf(), parts), impl.FlatCurve(oracleReflected(1)))
	}
}

func TestP1MixturesThatAreNotFinite(t *testing.T) {
	strong := shelfOf(flatPigment("a", largest, 1, 1), flatPigment("b", 1, largest, 1))
	for _, parts := range []impl.Parts{{2}, {0, 2}, {1, largest}} {
		wantCodeOfParts(t, "a mixture that is not finite", strong, parts, impl.ErrState)
		d, code := impl.DropsFor(strong, parts, 1)
		wantCode(t, "DropsFor do not ask for mixtures", code, impl.OK)
		want(t, "DropsFor do not ask for mixtures", impl.TotalDrops(d), 1)
		_, code = impl.ShiftParts(strong, parts, 0, 1, 0.5)
		wantCode(t, "ShiftParts does not ask for mixtures", code, impl.OK)
	}
	wantCodeOfParts(t, "a ratio that is not finite", dimShelf(), impl.Parts{1}, impl.ErrState)
	for i := range 16 {
		x := shelfOf(flatPigment("a", 1, 1, 1))
		x.Pigments[0].K[i], x.Pigments[0].S[i] = largest, tiniest
		wantCodeOfParts(t, "a ratio that is not finite at one wavelength", x, impl.Parts{1}, impl.ErrState)
	}
	wantCurve(t, "what scatters nothing reflects nothing", curveOfParts(t, shelfOf(flatPigment("a", 1, 0, 1)), impl.Parts{1}), impl.Curve{})
}

// wantInvalidMatching asks for ErrInvalid wherever a shelf is used, with other arguments that are wrong, too.
func wantInvalidMatching(t *testing.T, name string, x impl.Shelf) {
	t.Helper()
	for _, parts := range []impl.Parts{{1}, {}, {nan}, {-1}, {0, 0, 0, 0, 0, 1}} {
		wantCodeOfParts(t, name, x, parts, impl.ErrInvalid)
		wantCodeOfShifts(t, name, x, parts, impl.ErrInvalid)
	}
	even, code := impl.EvenParts(x)
	wantNone(t, "EvenParts, "+name, even, code, impl.ErrInvalid)
	for _, n := range []int64{-1, 0, 1, 20, 40, 41, 1001} {
		for _, target := range []impl.Curve{impl.FlatCurve(0.5), impl.FlatCurve(nan)} {
			parts, off, made, code := impl.MatchCurve(x, target, n)
			wantNone(t, "MatchCurve, "+name, foundMatch{parts, off, made}, code, impl.ErrInvalid)
			parts, off, made, code = impl.MatchLook(x, target, impl.Three{}, n)
			wantNone(t, "MatchLook, "+name, foundMatch{parts, off, made}, code, impl.ErrInvalid)
			d, off, code := impl.BestDrops(x, target, n)
			wantNone(t, "BestDrops, "+name, d, code, impl.ErrInvalid)
			wantNumber(t, "BestDrops, off, "+name, off, 0)
		}
	}
}

// wantInvalidDropsToMatch asks for ErrInvalid wherever drops are used, with other arguments that are wrong, too.
func wantInvalidDropsToMatch(t *testing.T, name string, x impl.Shelf, d impl.Drops) {
	t.Helper()
	list, code := impl.DropsBeside(x, d)
	wantNoList(t, "DropsBeside, "+name, list, code, impl.ErrInvalid)
	for _, target := range []impl.Curve{impl.FlatCurve(0.5), impl.FlatCurve(nan)} {
		off, code := impl.OffOfDrops(x, d, target)
		wantNone(t, "OffOfDrops, "+name, off, code, impl.ErrInvalid)
		is, code := impl.IsBestBeside(x, d, target)
		wantNone(t, "IsBestBeside, "+name, is, code, impl.ErrInvalid)
		for _, added := range []int64{-1, 0, 20, 21} {
			e, off, code := impl.CorrectDrops(x, d, target, added)
			wantNone(t, "CorrectDrops, "+name, e, code, impl.ErrInvalid)
			wantNumber(t, "CorrectDrops, off, "+name, off, 0)
		}
	}
}

func TestP1MatchingIsNotValid(t *testing.T) {
	for _, bad := range notShelves() {
		wantInvalidMatching(t, bad.name, bad.shelf)
		for _, d := range []impl.Drops{{1}, {}, {-1}, {1000, 1000}} {
			wantInvalidDropsToMatch(t, bad.name, bad.shelf, d)
		}
	}
	for _, bad := range notDrops(2) {
		wantInvalidDropsToMatch(t, bad.name, twoShelf(), bad.drops)
	}
	for _, bad := range notDrops(6) {
		wantInvalidDropsToMatch(t, bad.name, fullShelf(), bad.drops)
	}
}

func TestP1ErrorsOfShifts(t *testing.T) {
	even := impl.Parts{0.5, 0.5}
	out := []int64{-1, 2, 3, 6, 1 << 32, 1<<32 + 1, math.MinInt64, math.MaxInt64}
	for _, at := range out {
		for _, other := range []int64{0, 1, at} {
			parts, code := impl.ShiftParts(twoShelf(), even, at, other, 0.25)
			wantNone(t, "ShiftParts from no such pigment", parts, code, impl.ErrRange)
			parts, code = impl.ShiftParts(twoShelf(), even, other, at, 0.25)
			wantNone(t, "ShiftParts to no such pigment", parts, code, impl.ErrRange)
		}
	}
	for i := range int64(2) {
		parts, code := impl.ShiftParts(twoShelf(), even, i, i, 0.25)
		wantNone(t, "ShiftParts from a pigment to itself", parts, code, impl.ErrRange)
	}
	for _, amount := range notAmounts() {
		parts, code := impl.ShiftParts(twoShelf(), even, 0, 1, amount)
		wantNone(t, "ShiftParts by such an amount", parts, code, impl.ErrRange)
		for _, target := range []impl.Curve{impl.FlatCurve(0.5), impl.FlatCurve(nan)} { // NaN would be ErrState
			is, code := impl.IsMatched(twoShelf(), even, target, amount)
			wantNone(t, "IsMatched by such an amount", is, code, impl.ErrRange)
			is, code = impl.IsMatched(greys(1), impl.Parts{1}, target, amount)
			wantNone(t, "IsMatched of one pigment by such an amount", is, code, impl.ErrRange)
		}
	}
	huge := impl.Parts{largest, largest}
	parts, code := impl.ShiftParts(twoShelf(), huge, 0, 1, largest)
	wantNone(t, "ShiftParts, too much", parts, code, impl.ErrState)
	parts, code = impl.ShiftParts(twoShelf(), huge, 0, 1, 1)
	wantFound(t, "ShiftParts, so little that it is lost", parts, code, huge)
	parts, code = impl.ShiftParts(twoShelf(), impl.Parts{tiniest, largest}, 0, 1, 1)
	wantFound(t, "ShiftParts of the least number", parts, code, impl.Parts{0, largest})
}

func TestP1ErrorsOfMatches(t *testing.T) {
	light, x := impl.FlatCurve(1), twoShelf()
	for _, n := range []int64{-1, impl.MaxSweeps + 1, 1 << 32, math.MinInt64, math.MaxInt64} {
		for _, target := range []impl.Curve{impl.FlatCurve(0.5), impl.FlatCurve(nan)} {
			parts, off, made, code := impl.MatchCurve(x, target, n)
			wantNone(t, "MatchCurve with so many sweeps", foundMatch{parts, off, made}, code, impl.ErrRange)
			parts, off, made, code = impl.MatchLook(x, target, impl.Three{}, n)
			wantNone(t, "MatchLook with so many sweeps", foundMatch{parts, off, made}, code, impl.ErrRange)
		}
	}
	for _, n := range []int64{0, 1, impl.MaxSweeps} {
		for i := range 16 {
			for _, a := range []float32{nan, infinite, -infinite, largest, -1e20} {
				parts, off, made, code := impl.MatchCurve(x, flatBut(0.5, i, a), n)
				wantNone(t, "MatchCurve of such a target", foundMatch{parts, off, made}, code, impl.ErrState)
			}
		}
		for i := range 3 {
			for _, a := range []float32{nan, infinite, -infinite, largest} {
				look := impl.Three{50, 0, 0}
				look[i] = a
				parts, off, made, code := impl.MatchLook(x, light, look, n)
				wantNone(t, "MatchLook of such a look", foundMatch{parts, off, made}, code, impl.ErrState)
			}
		}
		for _, a := range []float32{0, minus0, nan, infinite} {
			parts, off, made, code := impl.MatchLook(x, impl.FlatCurve(a), impl.Three{}, n)
			wantNone(t, "MatchLook under such a light", foundMatch{parts, off, made}, code, impl.ErrState)
		}
		parts, off, made, code := impl.MatchCurve(blockedShelf(), impl.Curve{}, n)
		wantNone(t, "MatchCurve of even parts with an error", foundMatch{parts, off, made}, code, impl.ErrState)
		parts, off, made, code = impl.MatchLook(blockedShelf(), light, impl.Three{}, n)
		wantNone(t, "MatchLook of even parts with an error", foundMatch{parts, off, made}, code, impl.ErrState)
	}
}

func TestP1ErrorsOfTargets(t *testing.T) {
	x, even, light := twoShelf(), impl.Parts{0.5, 0.5}, impl.FlatCurve(1)
	for i := range 16 {
		for _, a := range []float32{nan, infinite, -infinite, largest, 1e20} {
			target := flatBut(0.5, i, a)
			off, code := impl.OffOfParts(x, even, target)
			wantNone(t, "OffOfParts such a target", off, code, impl.ErrState)
			is, code := impl.IsMatched(x, even, target, 0.25)
			wantNone(t, "IsMatched with such a target", is, code, impl.ErrState)
			off, code = impl.OffOfDrops(x, impl.Drops{1}, target)
			wantNone(t, "OffOfDrops such a target", off, code, impl.ErrState)
			is, code = impl.IsBestBeside(x, impl.Drops{1}, target)
			wantNone(t, "IsBestBeside with such a target", is, code, impl.ErrState)
			d, off, code := impl.CorrectDrops(x, impl.Drops{1}, target, 3)
			wantNone(t, "CorrectDrops with such a target", d, code, impl.ErrState)
			wantNumber(t, "CorrectDrops, off, with such a target", off, 0)
			d, off, code = impl.BestDrops(x, target, 3)
			wantNone(t, "BestDrops with such a target", d, code, impl.ErrNotFound)
			wantNumber(t, "BestDrops, off, with such a target", off, 0)
		}
	}
	for i := range 3 {
		look := impl.Three{50, 1, 1}
		for _, a := range []float32{nan, infinite, -infinite, largest} {
			look[i] = a
			off, code := impl.LookOffOfParts(x, even, light, look)
			wantNone(t, "LookOffOfParts such a look", off, code, impl.ErrState)
		}
	}
	for _, a := range []float32{0, minus0, nan, infinite} {
		off, code := impl.LookOffOfParts(x, even, impl.FlatCurve(a), impl.Three{})
		wantNone(t, "LookOffOfParts under such a light", off, code, impl.ErrState)
	}
}

func TestP1ErrorsOfTotals(t *testing.T) {
	for _, total := range []int64{0, -1, impl.MaxDrops + 1, 1<<16 + 1, 1<<32 + 1, math.MinInt64, math.MaxInt64} {
		for _, parts := range []impl.Parts{{1}, {largest, largest}} { // the second ones would be ErrState
			d, code := impl.DropsFor(twoShelf(), parts, total)
			wantNone(t, "DropsFor such a total", d, code, impl.ErrRange)
		}
		for _, x := range []impl.Shelf{twoShelf(), blockedShelf(), fullShelf(), greys(1)} {
			d, off, code := impl.BestDrops(x, impl.Curve{}, total)
			wantNone(t, "BestDrops with such a total", d, code, impl.ErrRange)
			wantNumber(t, "BestDrops, off, with such a total", off, 0)
		}
	}
	sum := impl.Parts{largest, largest / 2, largest / 4}
	d, code := impl.DropsFor(greys(3), sum, 1)
	wantNone(t, "DropsFor a sum that is not finite", d, code, impl.ErrState)
	most := []int64{0, 1000, 499, 30, 12, 8, 6}
	for count := 2; count <= impl.MaxPigments; count++ {
		for _, target := range []impl.Curve{{}, impl.FlatCurve(nan)} {
			d, off, code := impl.BestDrops(greys(count), target, most[count]+1)
			wantNone(t, "BestDrops, more than MaxRecipes", d, code, impl.ErrLimit)
			wantNumber(t, "BestDrops, off, more than MaxRecipes", off, 0)
		}
		_, _, code := impl.BestDrops(greys(count), impl.Curve{}, most[count])
		wantCode(t, "BestDrops, nearly MaxRecipes", code, impl.OK)
	}
	best, off, code := impl.BestDrops(blockedShelf(), impl.Curve{}, 3)
	wantNone(t, "BestDrops, none of which counts", best, code, impl.ErrNotFound)
	wantNumber(t, "BestDrops, off, none of which counts", off, 0)
}

func TestP1ErrorsOfCorrections(t *testing.T) {
	dim := dimShelf()
	for _, added := range []int64{-1, impl.MaxAdded + 1, 1 << 16, 1 << 32, math.MinInt64, math.MaxInt64} {
		for _, d := range []impl.Drops{{1, 1}, {1}} { // the second ones would be ErrState
			e, off, code := impl.CorrectDrops(dim, d, impl.Curve{}, added)
			wantNone(t, "CorrectDrops with so many added", e, code, impl.ErrRange)
			wantNumber(t, "CorrectDrops, off, with so many added", off, 0)
		}
	}
	for _, added := range []int64{0, 1, impl.MaxAdded} {
		e, off, code := impl.CorrectDrops(dim, impl.Drops{5}, impl.Curve{}, added)
		wantNone(t, "CorrectDrops of drops with an error", e, code, impl.ErrState)
		wantNumber(t, "CorrectDrops, off, of drops with an error", off, 0)
	}
	is, code := impl.IsBestBeside(dim, impl.Drops{5}, impl.Curve{})
	wantNone(t, "IsBestBeside of drops with an error", is, code, impl.ErrState)
	off, code := impl.OffOfDrops(dim, impl.Drops{5}, impl.Curve{})
	wantNone(t, "OffOfDrops of drops with an error", off, code, impl.ErrState)
	list, code := impl.DropsBeside(dim, impl.Drops{5})
	wantDrops(t, "DropsBeside do not ask for paints", list, code, []impl.Drops{{4, 1}})
}

// Shelves and lights are neither changed nor kept, and lists have memory of their own.
func TestP1MatchingLeavesItsArguments(t *testing.T) {
	r := newRandom(421)
	room := randomShelf(r, impl.MaxPigments).Pigments
	x := impl.Shelf{Pigments: room[:3]}
	kept := impl.Shelf{Pigments: slices.Clone(room)}
	c, d := randomCurve(r, 0, 1), impl.Drops{1, 2, 3}
	first := matchingResultsOf(x, d, c)
	wantTrue(t, "a shelf that is passed in is not changed", sameShelf(impl.Shelf{Pigments: room}, kept))
	spoil(room)
	again := matchingResultsOf(impl.Shelf{Pigments: kept.Pigments[:3]}, d, c)
	wantTrue(t, "equal shelves have equal results", slices.Equal(first, again))

	lights := []impl.Curve{randomCurve(r, 0, 1), randomCurve(r, 0, 1), randomCurve(r, 0, 1)}
	keptLights := slices.Clone(lights)
	list, code := impl.UnlikeUnder(lights[:2], c, impl.FlatCurve(0.5))
	wantCode(t, "UnlikeUnder", code, impl.OK)
	wantTrue(t, "lights that are passed in are not changed", slices.Equal(lights, keptLights))
	clear(lights)
	wantNumber(t, "lights are not kept", list[1], oracleUnlike(keptLights[1], c, impl.FlatCurve(0.5)))
	other, _ := impl.UnlikeUnder(keptLights[:2], c, impl.FlatCurve(0.5))
	clear(list)
	wantNumber(t, "lists of differences have memory of their own", other[1], oracleUnlike(keptLights[1], c, impl.FlatCurve(0.5)))

	beside, _ := impl.DropsBeside(greys(3), d)
	second, code := impl.DropsBeside(greys(3), d)
	clear(beside)
	wantDrops(t, "lists of drops have memory of their own", second, code, oracleBeside(3, d))
}

// Arguments of any kind have equal results, and none makes a function panic.
func TestP1EqualResultsOfMatching(t *testing.T) {
	r := newRandom(422)
	for n := range 200 {
		x := randomShelf(r, r.IntN(impl.MaxPigments+1))
		if n%3 == 0 {
			for i := range x.Pigments {
				x.Pigments[i].K = anyCurve(r)
			}
		}
		d := randomDrops(r, 6, 1100)
		if n%2 == 0 && len(x.Pigments) > 0 {
			d = randomDrops(r, len(x.Pigments), 30)
		}
		c := randomCurve(r, 0, 1)
		if n%7 == 0 {
			c = anyCurve(r)
		}
		first, second := matchingResultsOf(x, d, c), matchingResultsOf(copyOfShelf(x), d, c)
		wantTrue(t, "the results of a second call", slices.Equal(first, second))
	}
}

// matchingResultsOf has the bits of all that the functions of chapter 4 tell of these arguments.
func matchingResultsOf(x impl.Shelf, d impl.Drops, c impl.Curve) []int64 {
	var list []int64
	numbers := func(code int64, more ...float32) {
		for _, a := range more {
			list = append(list, int64(math.Float32bits(a)))
		}
		list = append(list, code)
	}
	drops := func(code int64, more ...impl.Drops) {
		for _, e := range more {
			for _, n := range e {
				list = append(list, int64(n))
			}
		}
		list = append(list, code)
	}
	is := func(yes bool, code int64) {
		if yes {
			code += 100
		}
		list = append(list, code)
	}
	parts, light, look := impl.Parts(c[:6]), impl.FlatCurve(1), impl.Three(c[:3])
	for i := len(x.Pigments); i < len(parts); i++ {
		parts[i] = 0
	}
	reflected, code := impl.CurveOfParts(x, parts)
	numbers(code, reflected[:]...)
	off, code := impl.OffOfParts(x, parts, c)
	numbers(code, off, impl.OffOfCurves(c, reflected))
	off, code = impl.LookOffOfParts(x, parts, c, look)
	numbers(code, off)
	even, code := impl.EvenParts(x)
	numbers(code, even[:]...)
	shifted, code := impl.ShiftParts(x, parts, int64(d[0]), int64(d[1]), c[7])
	numbers(code, shifted[:]...)
	best, off, made, code := impl.MatchCurve(x, c, 12)
	numbers(code, append(best[:], off, float32(made))...)
	best, off, made, code = impl.MatchLook(x, light, look, 6)
	numbers(code, append(best[:], off, float32(made))...)
	is(impl.IsMatched(x, parts, c, 0.125))
	e, code := impl.DropsFor(x, parts, int64(d[2]))
	drops(code, e)
	e, off, code = impl.BestDrops(x, c, int64(d[0]))
	drops(code, e)
	numbers(code, off)
	beside, code := impl.DropsBeside(x, d)
	drops(code, beside...)
	is(impl.IsBestBeside(x, d, c))
	e, off, code = impl.CorrectDrops(x, d, c, int64(d[1]))
	drops(code, e)
	numbers(code, off)
	off, code = impl.OffOfDrops(x, d, c)
	numbers(code, off)
	unlike, code := impl.UnlikeUnder([]impl.Curve{light, c}, c, reflected)
	numbers(code, unlike...)
	at, code := impl.WorstLight([]impl.Curve{light, c}, c, reflected)
	numbers(code, float32(at))
	is(impl.ArePair(light, c, c, reflected, c[8], c[9]))
	return list
}
