package tests

import (
	"testing"

	"loop.example/g01213/impl"
)

// The example of chapter 4, word by word.
func TestExampleOfChapter4(t *testing.T) {
	x := twoShelf()
	target := paintOf(t, x, impl.Drops{1, 1})
	even, code := impl.EvenParts(x)
	wantFound(t, "EvenParts", even, code, impl.Parts{0.5, 0.5})
	wantNumber(t, "EvenParts are not off", offOfParts(t, x, even, target), 0)
	for _, sweeps := range []int64{0, 1, 8, 9} {
		want(t, "MatchCurve leaves them", matchCurve(t, x, target, sweeps), foundMatch{even, 0, sweeps})
	}
	d, code := impl.DropsFor(x, even, 5)
	wantFound(t, "DropsFor them and 5", d, code, impl.Drops{3, 2})
	d, off, code := impl.BestDrops(x, target, 4)
	wantFound(t, "BestDrops with the total 4", d, code, impl.Drops{2, 2})
	wantNumber(t, "BestDrops are not off", off, 0)
	d, off, code = impl.CorrectDrops(x, impl.Drops{1}, target, 1)
	wantFound(t, "CorrectDrops of 1 and 0", d, code, impl.Drops{1, 1})
	wantNumber(t, "CorrectDrops are not off", off, 0)
}
