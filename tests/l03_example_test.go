package tests

import (
	"slices"
	"testing"

	"loop.example/g01213/impl"
)

// The example of chapter 3, word by word.
func TestExampleOfChapter3(t *testing.T) {
	x := twoShelf()
	parts, code := impl.PartsOf(x, impl.Drops{1, 3})
	wantFound(t, "PartsOf 1, 3", parts, code, impl.Parts{0.25, 0.75})
	wantLayer(t, "MixDrops 1, 3", mixDrops(t, x, impl.Drops{1, 3}), flatLayer(0.75, 1, 1))
	list, code := impl.AllDrops(2, 2)
	wantCode(t, "AllDrops of 2 and 2", code, impl.OK)
	wantTrue(t, "AllDrops of 2 and 2", slices.Equal(list, []impl.Drops{{0, 2}, {1, 1}, {2, 0}}))
	least, code := impl.ReduceDrops(x, impl.Drops{4, 6})
	wantFound(t, "ReduceDrops of 4 and 6", least, code, impl.Drops{2, 3})
}
