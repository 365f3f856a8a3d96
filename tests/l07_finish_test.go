package tests

import (
	"slices"
	"testing"

	"loop.example/g01213/impl"
)

// P16 and P17 need deeds that finish what has been begun.

// wantFinished asks that a plan brings everything to the vats, whatever was done before.
func wantFinished(t *testing.T, w impl.Works, deeds []impl.Deed) {
	t.Helper()
	plan := finishDeeds(t, w, deeds)
	all := slices.Concat(deeds, plan)
	f := floorAfter(t, w, all)
	for batch, b := range w.Batches {
		want(t, "a vat behind the planned deeds", f.Vats[batch], b.Drops)
		vat, code := impl.VatAfter(w, all, int64(batch))
		wantFound(t, "VatAfter the planned deeds", vat, code, b.Drops)
	}
	agreed, code := impl.IsAgreed(w, all)
	wantFound(t, "IsAgreed behind the planned deeds", agreed, code, true)
	wantTrue(t, "all is saved", !slices.Contains(f.Saved, false) && len(f.Wire) == 0)
	wantDeeds(t, "nothing is left to do", finishDeeds(t, w, append(all, impl.Deed{Kind: impl.DdCrash})), impl.OK, []impl.Deed{{Kind: impl.DdSave}})
	_, before, _ := impl.FloorAfter(w, deeds)
	_, done, _ := impl.FloorAfter(w, all)
	want(t, "all planned deeds are done", done-before, int64(len(plan)))
}

func TestP16PlansByHand(t *testing.T) {
	w := exampleWorks()
	for deeds, wanted := range map[string]string{
		"save":                               "ask 0, deliver 0, deliver 0, ask 1, deliver 0, deliver 0, ask 2, deliver 0, deliver 0, ask 3, deliver 0, deliver 0, save",
		"ask 0":                              "drop 0, ask 0, deliver 0, deliver 0, ask 1, deliver 0, deliver 0, ask 2, deliver 0, deliver 0, ask 3, deliver 0, deliver 0, save",
		"ask 1, deliver 0, deliver 0":        "ask 0, deliver 0, deliver 0, ask 2, deliver 0, deliver 0, ask 3, deliver 0, deliver 0, save",
		"ask 1, deliver 0, deliver 0, crash": "ask 0, deliver 0, deliver 0, ask 1, deliver 0, deliver 0, ask 2, deliver 0, deliver 0, ask 3, deliver 0, deliver 0, save",
		"ask 3, copy 0, copy 0, deliver 2, ask 0": "drop 0, drop 0, drop 0, ask 0, deliver 0, deliver 0, ask 1, deliver 0, deliver 0, ask 2, deliver 0, deliver 0, save",
		"ask 0, ask 1, ask 2, ask 3, deliver 0, deliver 0, deliver 0, deliver 0, deliver 0, deliver 0, deliver 0":            "drop 0, ask 3, deliver 0, deliver 0, save",
		"ask 0, ask 1, ask 2, ask 3, deliver 0, deliver 0, deliver 0, deliver 0, deliver 0, deliver 0, deliver 0, deliver 0": "save",
		"ask 0, ask 1, ask 2, ask 3, deliver 0, deliver 0, deliver 0, deliver 0, deliver 0, deliver 0, deliver 0, copy 0":    "drop 0, save",
	} {
		plan, code := impl.FinishDeeds(w, deedsOf(t, deeds))
		wantDeeds(t, "FinishDeeds behind "+deeds, plan, code, deedsOf(t, wanted))
		wantFinished(t, w, deedsOf(t, deeds))
	}
	for _, w := range []impl.Works{exampleWorks(), emptyWorks(), fullWorks()} {
		wantFinished(t, w, nil)
	}
	plan, code := impl.FinishDeeds(emptyWorks(), nil)
	wantDeeds(t, "FinishDeeds without tasks", plan, code, []impl.Deed{{Kind: impl.DdSave}})
	want(t, "FinishDeeds of full works", len(finishDeeds(t, fullWorks(), nil)), 145)
}

// Deeds that are left out count as well.
func TestP16PlansThatJustReachTheLimit(t *testing.T) {
	save, nothing := impl.Deed{Kind: impl.DdSave}, impl.Deed{Kind: impl.DdAsk, A: 999}
	for _, filler := range []impl.Deed{save, nothing} {
		for _, c := range []struct {
			works impl.Works
			last  []impl.Deed
			plan  int
		}{
			{emptyWorks(), nil, 1}, {exampleWorks(), nil, 13}, {fullWorks(), nil, 145},
			{exampleWorks(), deedsOf(t, "ask 0"), 14}, {exampleWorks(), deedsOf(t, "ask 0, deliver 0, deliver 0"), 10}, {fullWorks(), askTimes(47, impl.MaxWire), 155},
			{exampleWorks(), finishDeeds(t, exampleWorks(), nil), 1},
		} {
			most := impl.MaxDeeds - c.plan - len(c.last)
			reaching := append(manyDeeds(filler, most), c.last...)
			plan, code := impl.FinishDeeds(c.works, reaching)
			wantCode(t, "FinishDeeds that just reach MaxDeeds", code, impl.OK)
			want(t, "the number of planned deeds", len(plan), c.plan)
			beyond := append(manyDeeds(filler, most+1), c.last...)
			plan, code = impl.FinishDeeds(c.works, beyond)
			wantNoList(t, "FinishDeeds beyond MaxDeeds", plan, code, impl.ErrLimit)
			wantCode(t, "but the deeds before are not too many", codeOfFloor(c.works, beyond), impl.OK)
		}
		plan, code := impl.FinishDeeds(emptyWorks(), manyDeeds(filler, impl.MaxDeeds))
		wantNoList(t, "FinishDeeds behind MaxDeeds", plan, code, impl.ErrLimit)
		plan, code = impl.FinishDeeds(emptyWorks(), manyDeeds(filler, impl.MaxDeeds+1))
		wantNoList(t, "FinishDeeds behind one more", plan, code, impl.ErrRange)
	}
}

func codeOfFloor(w impl.Works, deeds []impl.Deed) int64 {
	_, _, code := impl.FloorAfter(w, deeds)
	return code
}

func TestP16PlansAsTheOracleTells(t *testing.T) {
	r := newRandom(1621)
	limits := 0
	for range 1000 {
		w := randomWorks(r)
		deeds := randomDeeds(r, len(oracleTasks(w)), r.IntN(impl.MaxDeeds+1))
		oracle, _ := oracleDone(w, deeds)
		wanted := oracle.plan()
		plan, code := impl.FinishDeeds(w, deeds)
		if len(deeds)+len(wanted) > impl.MaxDeeds {
			limits++
			wantNoList(t, "FinishDeeds", plan, code, impl.ErrLimit)
			continue
		}
		wantDeeds(t, "FinishDeeds", plan, code, wanted)
		if len(deeds)+len(wanted)+2 <= impl.MaxDeeds { // a crash and another plan are behind these
			wantFinished(t, w, deeds)
		}
	}
	wantTrue(t, "some plans are too long, and some are not", limits > 50 && limits < 950)
}
