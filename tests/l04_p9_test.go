package tests

import (
	"math"
	"testing"

	"loop.example/g01213/impl"
)

// A match, and each of its sweeps, is that of the oracle, to the last bit.
func TestP9MatchesOfTheOracle(t *testing.T) {
	r := newRandom(901)
	for n := range 12 {
		count := 1 + n%3
		x, target, light := randomShelf(r, count), randomCurve(r, 0, 1), randomCurve(r, 0.1, 2)
		look := oracleLookUnder(light, target)
		sweeps := int64(4 + n)
		parts, off, made := oracleMatch(count, sweeps, func(parts impl.Parts) (float32, bool) {
			return oracleOff(oracleCurveOfParts(x, parts), target), true
		})
		want(t, "MatchCurve", matchCurve(t, x, target, sweeps), foundMatch{parts, off, made})
		parts, off, made = oracleMatch(count, sweeps, func(parts impl.Parts) (float32, bool) {
			return oracleDifference(oracleLookUnder(light, oracleCurveOfParts(x, parts)), look), true
		})
		want(t, "MatchLook", matchLook(t, x, light, look, sweeps), foundMatch{parts, off, made})
	}
}

// As many sweeps and pigments as can be; how far parts are off is compared with the oracle elsewhere.
func TestP9LongMatches(t *testing.T) {
	r := newRandom(902)
	ended, cut := 0, 0
	for n := range 120 {
		count := 1 + n%impl.MaxPigments
		x, light := randomShelf(r, count), randomCurve(r, 0.1, 2)
		target := curveOfParts(t, x, randomParts(r, count, 1))
		if n%4 == 0 {
			target = randomCurve(r, 0, 1)
		}
		look, sweeps := lookUnder(t, light, target), r.Int64N(impl.MaxSweeps+1)
		if n%2 == 0 {
			sweeps = impl.MaxSweeps
		}
		parts, off, made := oracleMatch(count, sweeps, func(parts impl.Parts) (float32, bool) {
			off, code := impl.OffOfParts(x, parts, target)
			return off, code == impl.OK
		})
		want(t, "MatchCurve", matchCurve(t, x, target, sweeps), foundMatch{parts, off, made})
		if made < sweeps {
			ended++
		} else {
			cut++
		}
		parts, off, made = oracleMatch(count, sweeps, func(parts impl.Parts) (float32, bool) {
			off, code := impl.LookOffOfParts(x, parts, light, look)
			return off, code == impl.OK
		})
		want(t, "MatchLook", matchLook(t, x, light, look, sweeps), foundMatch{parts, off, made})
	}
	wantTrue(t, "some matches end by their amount, and some by their sweeps", ended > 20 && cut > 20)
}

func TestP9NeverMoreOffThanEvenParts(t *testing.T) {
	r := newRandom(903)
	for n := range 60 {
		count := 1 + n%impl.MaxPigments
		x, target, light := randomShelf(r, count), randomCurve(r, 0, 1), randomCurve(r, 0.1, 2)
		even, code := impl.EvenParts(x)
		wantFound(t, "EvenParts", even, code, oracleEven(count))
		last, first := offOfParts(t, x, even, target), matchCurve(t, x, target, 0)
		want(t, "MatchCurve without sweeps", first, foundMatch{even, last, 0})
		look := lookUnder(t, light, target)
		lastLook, code := impl.LookOffOfParts(x, even, light, look)
		wantCode(t, "LookOffOfParts", code, impl.OK)
		want(t, "MatchLook without sweeps", matchLook(t, x, light, look, 0), foundMatch{even, lastLook, 0})
		for sweeps := int64(1); sweeps <= impl.MaxSweeps; sweeps += 3 {
			m := matchCurve(t, x, target, sweeps)
			wantTrue(t, "more sweeps are never more off", m.off <= last)
			wantNumber(t, "MatchCurve tells how far the parts are off", m.off, offOfParts(t, x, m.parts, target))
			last = m.off
			m = matchLook(t, x, light, look, sweeps)
			wantTrue(t, "more sweeps are never more off a look", m.off <= lastLook)
			off, _ := impl.LookOffOfParts(x, m.parts, light, look)
			wantNumber(t, "MatchLook tells how far the parts are off", m.off, off)
			lastLook = m.off
		}
	}
}

func TestP9NoShiftMakesAMatchBetter(t *testing.T) {
	const last = 1. / 1024
	r := newRandom(904)
	ended := 0
	for n := range 100 {
		count := 1 + n%impl.MaxPigments
		x := randomShelf(r, count)
		target := curveOfParts(t, x, randomParts(r, count, 1))
		m := matchCurve(t, x, target, impl.MaxSweeps)
		if m.sweeps < impl.MaxSweeps {
			ended++
			wantMatched(t, "a match that has ended", x, m.parts, target, last, true)
		}
		for _, amount := range []float32{0, 1e-7, 1e-5, last, 0.25, 10} {
			wantMatched(t, "IsMatched looks at each shift", x, m.parts, target, amount, noShiftIsBetter(t, x, m.parts, target, amount))
		}
	}
	wantTrue(t, "many matches end", ended > 30)
}

// noShiftIsBetter asks ShiftParts and OffOfParts about each shift.
func noShiftIsBetter(t *testing.T, x impl.Shelf, parts impl.Parts, target impl.Curve, amount float32) bool {
	t.Helper()
	own := offOfParts(t, x, parts, target)
	for from := range x.Pigments {
		for to := range x.Pigments {
			if from == to {
				continue
			}
			shifted, code := impl.ShiftParts(x, parts, int64(from), int64(to), amount)
			wantCode(t, "ShiftParts", code, impl.OK)
			if offOfParts(t, x, shifted, target) < own {
				return false
			}
		}
	}
	return true
}

// One pigment, or parts that are not off, are left: the amount is halved nine times, from 1/4 to 1/2048.
func TestP9AmountsAreHalved(t *testing.T) {
	x := twoShelf()
	cases := []struct {
		name   string
		shelf  impl.Shelf
		target impl.Curve
		parts  impl.Parts
		sweeps int64
	}{
		{"even parts are not off", x, curveOfParts(t, x, impl.Parts{1, 1}), impl.Parts{0.5, 0.5}, 9},
		{"one shift by a quarter", x, curveOfParts(t, x, impl.Parts{1, 3}), impl.Parts{0.25, 0.75}, 10},
		{"two shifts by a quarter", x, curveOfParts(t, x, impl.Parts{0, 1}), impl.Parts{0, 1}, 11},
		{"two shifts the other way", x, curveOfParts(t, x, impl.Parts{1, 0}), impl.Parts{1, 0}, 11},
		{"one shift by an eighth", x, curveOfParts(t, x, impl.Parts{5, 3}), impl.Parts{0.625, 0.375}, 10},
		{"one shift by the last amount", x, curveOfParts(t, x, impl.Parts{513, 511}), impl.Parts{513. / 1024, 511. / 1024}, 10},
		// Dark mixtures are less unlike each other than light ones, so that too much black is less off than too little.
		{"a quarter, and an eighth back", x, curveOfParts(t, x, impl.Parts{3, 5}), impl.Parts{0.375, 0.625}, 11},
		{"a quarter and an eighth", x, curveOfParts(t, x, impl.Parts{7, 1}), impl.Parts{0.875, 0.125}, 11},
		{"one pigment", shelfOf(flatPigment("a", 1, 2, 1)), impl.FlatCurve(0.5), impl.Parts{1}, 9},
	}
	for _, c := range cases {
		m := matchCurve(t, c.shelf, c.target, impl.MaxSweeps)
		want(t, c.name+", parts", m.parts, c.parts)
		want(t, c.name+", sweeps", m.sweeps, c.sweeps)
		want(t, c.name+", as many sweeps as are made", matchCurve(t, c.shelf, c.target, c.sweeps), m)
		want(t, c.name+", one sweep less", matchCurve(t, c.shelf, c.target, c.sweeps-1).sweeps, c.sweeps-1)
	}
}

// Of shifts that are equally far off, the first one takes the place, and what is not less off never does.
func TestP9Ties(t *testing.T) {
	x := greys(4)
	want(t, "the first of equal pigments is taken from", matchCurve(t, x, curveOfParts(t, x, impl.Parts{1, 1}), 1).parts, impl.Parts{0.5, 0, 0.25, 0.25})
	want(t, "the first of equal pigments is added to", matchCurve(t, x, curveOfParts(t, x, impl.Parts{0, 1}), 1).parts, impl.Parts{0, 0.5, 0.25, 0.25})
	white := flatPigment("also", 0, 1, 1)
	two := shelfOf(x.Pigments[0], white, x.Pigments[1], x.Pigments[2])
	want(t, "a shift between equal pigments is none", matchCurve(t, two, curveOfParts(t, x, impl.Parts{1, 3}), 40).parts, impl.Parts{0, 0.25, 0.5, 0.25})
	want(t, "no shift between equal pigments", matchCurve(t, two, curveOfParts(t, x, impl.Parts{1, 1}), 40).parts, impl.Parts{0.25, 0.25, 0.25, 0.25})
	same := shelfOf(white, x.Pigments[0])
	want(t, "pigments that are all equal", matchCurve(t, same, impl.FlatCurve(0.3), 40).parts, impl.Parts{0.5, 0.5})
	wantMatched(t, "shifts that are equally far off", same, impl.Parts{0.5, 0.5}, impl.FlatCurve(0.3), 0.25, true)
	wantMatched(t, "shifts of nothing", x, impl.Parts{1, 1}, impl.FlatCurve(0.9), 0, true)
	wantMatched(t, "a shift that takes all", two, impl.Parts{0.125, 0, 1}, impl.Curve{}, 4, false)
}

// A sweep takes shifts that have been made in it as the beginning of the next ones.
func TestP9ShiftsWithinASweep(t *testing.T) {
	x := greys(3)
	white := curveOfParts(t, x, impl.Parts{1})
	third, quarter := over(1, 3), float32(0.25)
	rest := minus(third, quarter)
	want(t, "both blacks are shifted in one sweep", matchCurve(t, x, white, 1).parts, impl.Parts{plus(plus(third, quarter), quarter), rest, rest})
	all := matchCurve(t, x, white, 2).parts
	want(t, "a second sweep takes what is there", all, impl.Parts{plus(plus(plus(plus(third, quarter), quarter), rest), rest), 0, 0})
	want(t, "and a third one nothing", matchCurve(t, x, white, 3).parts, all)
}

// Parts with an error are not less off: the first pigment cannot have more.
func TestP9ErrorsAreNotLessOff(t *testing.T) {
	x := stuckShelf()
	even := impl.Parts{0.5, 0.5}
	target := impl.FlatCurve(1)
	off, code := impl.OffOfParts(x, impl.Parts{0.75, 0.25}, target)
	wantNone(t, "OffOfParts with more of the first", off, code, impl.ErrState)
	m := matchCurve(t, x, target, 1)
	want(t, "a shift with an error is not made", m, foundMatch{even, offOfParts(t, x, even, target), 1})
	wantMatched(t, "a shift with an error is not less off", x, even, target, 0.25, true)
	look := impl.Three{100, 0, 0}
	want(t, "nor for a look", matchLook(t, x, target, look, 1).parts, even)
	parts := impl.Parts{largest, largest}
	wantMatched(t, "parts that cannot be added are not less off", largeShelf(), parts, impl.FlatCurve(1), largest, true)
	wantMatched(t, "parts that can be added", largeShelf(), impl.Parts{largest / 4, largest / 4}, impl.FlatCurve(1), largest, false)
}

func TestP9Shifts(t *testing.T) {
	r := newRandom(905)
	for n := range 400 {
		count := 2 + n%5
		x, parts := randomShelf(r, count), randomParts(r, count, 1)
		from, to := r.IntN(count), r.IntN(count-1)
		if to >= from {
			to++
		}
		amount := []float32{0, minus0, tiniest, 0x1p-20, 0.25, parts[from], math.Nextafter32(parts[from], 2), 1, largest, randomBetween(r, 0, 1)}[n%10]
		shifted, code := impl.ShiftParts(x, parts, int64(from), int64(to), amount)
		wantFound(t, "ShiftParts", shifted, code, oracleShift(parts, from, to, amount))
	}
	for i := range int64(6) {
		j := (i + 1) % 6
		parts := impl.Parts{1, 1, 1, 1, 1, 1}
		wanted := parts
		wanted[i], wanted[j] = 0.75, 1.25
		shifted, code := impl.ShiftParts(fullShelf(), parts, i, j, 0.25)
		wantFound(t, "ShiftParts by a quarter", shifted, code, wanted)
		wanted[i], wanted[j] = 0, 2
		for _, amount := range []float32{1, 1.0000001, 100, largest} {
			shifted, code = impl.ShiftParts(fullShelf(), parts, i, j, amount)
			wantFound(t, "ShiftParts by what is there", shifted, code, wanted)
			wantNumber(t, "nothing is left, not -0", shifted[i], 0)
		}
	}
	shifted, code := impl.ShiftParts(twoShelf(), impl.Parts{0, 1}, 0, 1, 0.5)
	wantFound(t, "ShiftParts from nothing", shifted, code, impl.Parts{0, 1})
}

func TestP9EvenParts(t *testing.T) {
	for count := 1; count <= impl.MaxPigments; count++ {
		even, code := impl.EvenParts(greys(count))
		wantFound(t, "EvenParts", even, code, oracleEven(count))
		for i, a := range even {
			if i < count {
				wantNumber(t, "EvenParts", a, float32(1/float64(count)))
			} else {
				wantNumber(t, "EvenParts behind the pigments", a, 0)
			}
		}
	}
}

// A look that parts have is matched nearly, and a curve that parts have.
func TestP9WhatCanBeMatchedIsMatched(t *testing.T) {
	r := newRandom(906)
	for range 20 {
		x := randomShelf(r, 2)
		target := curveOfParts(t, x, randomParts(r, 2, 1))
		light := randomCurve(r, 0.5, 1)
		even := offOfParts(t, x, impl.Parts{0.5, 0.5}, target)
		m := matchCurve(t, x, target, impl.MaxSweeps)
		wantTrue(t, "a curve of two pigments is matched", m.off <= even/100 || m.off < 1e-5)
		m = matchLook(t, x, light, lookUnder(t, light, target), impl.MaxSweeps)
		wantTrue(t, "a look of two pigments is matched", m.off < 0.5)
	}
}
