package tests

import (
	"math/rand/v2"
	"slices"
	"testing"

	"loop.example/g01213/impl"
)

// stuckShelf is light enough at first, but one shift more to its first pigment has a ratio that is not finite.
func stuckShelf() impl.Shelf {
	clear, grey := flatPigment("clear", 0, 1, 1), flatPigment("grey", 1, 1, 1)
	clear.K[0], clear.S[0] = largest, tiniest
	return shelfOf(clear, grey)
}

// blockedShelf has no mixture of which the ratio is finite.
func blockedShelf() impl.Shelf {
	return shelfOf(flatPigment("a", largest, 8*tiniest, 1), flatPigment("b", largest, 8*tiniest, 1))
}

// largeShelf has numbers so small that parts as great as can be are mixed.
func largeShelf() impl.Shelf {
	return shelfOf(flatPigment("a", 0, 0x1p-126, 1), flatPigment("b", 0x1p-126, 0x1p-126, 1))
}

// greys are shelves of pigments that are all black but the first one, so that many mixtures are equally far off.
func greys(count int) impl.Shelf {
	x := shelfOf(flatPigment("white", 0, 1, 1))
	for i := 1; i < count; i++ {
		x.Pigments = append(x.Pigments, flatPigment(string([]byte{'b', byte('a' + i)}), 1, 1, 1))
	}
	return x
}

// randomParts has one part at least that is not 0; they need not add up to 1.
func randomParts(r *rand.Rand, count int, most float64) impl.Parts {
	var parts impl.Parts
	for i := range count {
		if r.IntN(4) > 0 {
			parts[i] = randomBetween(r, 0, most)
		}
	}
	parts[r.IntN(count)] = randomBetween(r, most/2, most)
	return parts
}

func wantDrops(t *testing.T, name string, got []impl.Drops, code int64, wanted []impl.Drops) {
	t.Helper()
	wantCode(t, name, code, impl.OK)
	if !slices.Equal(got, wanted) {
		t.Errorf("%s: got %v, want %v", name, got, wanted)
	}
}

// foundMatch is what a match returns.
type foundMatch struct {
	parts  impl.Parts
	off    float32
	sweeps int64
}

func matchCurve(t *testing.T, x impl.Shelf, target impl.Curve, sweeps int64) foundMatch {
	t.Helper()
	parts, off, made, code := impl.MatchCurve(x, target, sweeps)
	wantCode(t, "MatchCurve", code, impl.OK)
	return foundMatch{parts, off, made}
}

func matchLook(t *testing.T, x impl.Shelf, light impl.Curve, look impl.Three, sweeps int64) foundMatch {
	t.Helper()
	parts, off, made, code := impl.MatchLook(x, light, look, sweeps)
	wantCode(t, "MatchLook", code, impl.OK)
	return foundMatch{parts, off, made}
}

func offOfParts(t *testing.T, x impl.Shelf, parts impl.Parts, target impl.Curve) float32 {
	t.Helper()
	off, code := impl.OffOfParts(x, parts, target)
	wantCode(t, "OffOfParts", code, impl.OK)
	return off
}

func offOfDrops(t *testing.T, x impl.Shelf, d impl.Drops, target impl.Curve) float32 {
	t.Helper()
	off, code := impl.OffOfDrops(x, d, target)
	wantCode(t, "OffOfDrops", code, impl.OK)
	return off
}

func curveOfParts(t *testing.T, x impl.Shelf, parts impl.Parts) impl.Curve {
	t.Helper()
	c, code := impl.CurveOfParts(x, parts)
	wantCode(t, "CurveOfParts", code, impl.OK)
	return c
}

func lookUnder(t *testing.T, light, c impl.Curve) impl.Three {
	t.Helper()
	look, code := impl.LookUnder(light, c)
	wantCode(t, "LookUnder", code, impl.OK)
	return look
}

func wantMatched(t *testing.T, name string, x impl.Shelf, parts impl.Parts, target impl.Curve, amount float32, wanted bool) {
	t.Helper()
	is, code := impl.IsMatched(x, parts, target, amount)
	wantFound(t, name, is, code, wanted)
}

func wantBestBeside(t *testing.T, name string, x impl.Shelf, d impl.Drops, target impl.Curve, wanted bool) {
	t.Helper()
	is, code := impl.IsBestBeside(x, d, target)
	wantFound(t, name, is, code, wanted)
}
