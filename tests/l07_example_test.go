package tests

import (
	"slices"
	"testing"

	"loop.example/g01213/impl"
)

// The example of chapter 7, word by word.
func TestExampleOfChapter7(t *testing.T) {
	w, line, code := impl.CompileOrders("rooms 2\nbatch sky\npour 0 5\npour 3 2\nbatch sea\nlike sky\ntimes 2\n")
	wantWorks(t, "CompileOrders", w, code, exampleWorks())
	want(t, "the line beside OK", line, 0)
	wantTrue(t, "4 tasks", slices.Equal(tasksOf(t, w), []impl.Task{{Drops: 5}, {Jar: 3, Drops: 2}, {Batch: 1, Drops: 10}, {Batch: 1, Jar: 3, Drops: 4}}))
	total, code := impl.TotalOf(w)
	wantFound(t, "TotalOf", total, code, impl.Vat{15, 0, 0, 6})
	plan := finishDeeds(t, w, nil)
	want(t, "FinishDeeds from the beginning", len(plan), 13)
	vat, code := impl.VatAfter(w, plan, 1)
	wantFound(t, "the vat of sea", vat, code, impl.Vat{10, 0, 0, 4})
}
