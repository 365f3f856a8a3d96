package tests

import (
	"slices"
	"strings"
	"testing"

	"loop.example/g01213/impl"
)

// P16, no task is poured twice; crashes and lost notes change nothing else.

// wantDone compares the floor behind deeds, how many are done, and the first one that is left out, with the oracle.
func wantDone(t *testing.T, w impl.Works, deeds []impl.Deed) impl.Floor {
	t.Helper()
	oracle, codes := oracleDone(w, deeds)
	f, done, code := impl.FloorAfter(w, deeds)
	wantCode(t, "FloorAfter", code, impl.OK)
	wantFloor(t, "FloorAfter", f, oracle.floor())
	left := 0
	at, bad, code := impl.RefusedDeed(w, deeds)
	for i, c := range codes {
		if c == impl.OK {
			continue
		}
		if left == 0 {
			wantFound(t, "RefusedDeed", [2]int64{at, bad}, code, [2]int64{int64(i), c})
		}
		left++
	}
	if left == 0 {
		wantNone(t, "RefusedDeed, if all are done", [2]int64{at, bad}, code, impl.ErrNotFound)
	}
	want(t, "how many deeds are done", done, int64(len(deeds)-left))
	agreed, code := impl.IsAgreed(w, deeds)
	wantFound(t, "IsAgreed", agreed, code, oracle.isAgreed())
	return f
}

func TestP16TheFirstFloor(t *testing.T) {
	for _, w := range []impl.Works{exampleWorks(), emptyWorks(), fullWorks()} {
		for _, none := range [][]impl.Deed{nil, {}} {
			f := wantDone(t, w, none)
			want(t, "vats", len(f.Vats), len(w.Batches))
			want(t, "books", len(f.Books), int(w.Rooms))
			for _, list := range append(f.Books, f.Known, f.Saved) {
				want(t, "what is told of each task", len(list), len(tasksOf(t, w)))
				wantTrue(t, "nothing has been poured", !slices.Contains(list, true))
			}
			want(t, "the wire", len(f.Wire), 0)
		}
	}
	agreed, code := impl.IsAgreed(emptyWorks(), nil)
	wantFound(t, "works without tasks are agreed", agreed, code, true)
	agreed, code = impl.IsAgreed(exampleWorks(), nil)
	wantFound(t, "other works are not, at first", agreed, code, false)
}

func floorOf(vats []impl.Vat, books [][]bool, known, saved []bool, wire []impl.Note) impl.Floor {
	return impl.Floor{Vats: vats, Books: books, Known: known, Saved: saved, Wire: wire}
}

// Each deed on the floor of the example, by hand.
func TestP16DeedsByHand(t *testing.T) {
	yes, no := true, false
	back := impl.Note{Back: true}
	sky, nothing := []impl.Vat{{5}, {}}, make([]impl.Vat, 2)
	nobody := [][]bool{{no, no, no, no}, {no, no, no, no}}
	first := [][]bool{{yes, no, no, no}, {no, no, no, no}}
	none, one := []bool{no, no, no, no}, []bool{yes, no, no, no}
	for _, c := range []struct {
		deeds  string
		done   int64
		wanted impl.Floor
	}{
		{"ask 0", 1, floorOf(nothing, nobody, none, none, []impl.Note{{}})},
		{"ask 0, drop 0", 2, floorOf(nothing, nobody, none, none, nil)},
		{"ask 0, ask 3, ask 0", 3, floorOf(nothing, nobody, none, none, []impl.Note{{}, {Task: 3}, {}})},
		{"ask 0, ask 3, drop 0", 3, floorOf(nothing, nobody, none, none, []impl.Note{{Task: 3}})},
		{"ask 0, deliver 0", 2, floorOf(sky, first, none, none, []impl.Note{back})},
		{"ask 0, copy 0", 2, floorOf(sky, first, none, none, []impl.Note{{}, back})},
		{"ask 0, ask 3, deliver 0", 3, floorOf(sky, first, none, none, []impl.Note{{Task: 3}, back})},
		{"ask 0, copy 0, copy 0, deliver 0", 4, floorOf(sky, first, none, none, []impl.Note{back, back, back})},
		{"ask 0, deliver 0, deliver 0", 3, floorOf(sky, first, one, none, nil)},
		{"ask 0, deliver 0, copy 0", 3, floorOf(sky, first, one, none, []impl.Note{back})},
		{"ask 0, deliver 0, drop 0", 3, floorOf(sky, first, none, none, nil)},
		{"ask 0, deliver 0, deliver 0, save", 4, floorOf(sky, first, one, one, nil)},
		{"ask 0, deliver 0, save, deliver 0", 4, floorOf(sky, first, one, none, nil)},
		{"ask 0, deliver 0, copy 0, crash", 4, floorOf(sky, first, none, none, []impl.Note{back})},
		{"ask 0, deliver 0, crash, deliver 0", 4, floorOf(sky, first, one, none, nil)},
		{"ask 0, deliver 0, deliver 0, save, crash", 5, floorOf(sky, first, one, one, nil)},
		{"ask 0, deliver 0, deliver 0, crash, save", 5, floorOf(sky, first, none, none, nil)},
		{"ask 0, deliver 0, deliver 0, ask 0, deliver 0, drop 0, copy 0", 3, floorOf(sky, first, one, none, nil)},
		{"ask 4, deliver 0, copy 0, drop 0, save, crash", 2, floorOf(nothing, nobody, none, none, nil)},
		{"ask 1, deliver 0", 2, floorOf([]impl.Vat{{0, 0, 0, 2}, {}}, [][]bool{none, {no, yes, no, no}}, none, none, []impl.Note{{Back: true, Task: 1}})},
		{"ask 2, deliver 0, deliver 0, save", 4, floorOf([]impl.Vat{{}, {10}}, [][]bool{{no, no, yes, no}, none}, []bool{no, no, yes, no}, []bool{no, no, yes, no}, nil)},
	} {
		f, done, code := impl.FloorAfter(exampleWorks(), deedsOf(t, c.deeds))
		wantCode(t, "FloorAfter "+c.deeds, code, impl.OK)
		want(t, "how many are done of "+c.deeds, done, c.done)
		wantFloor(t, "FloorAfter "+c.deeds, f, c.wanted)
	}
}

// Each deed with each of its errors, and which of them comes first.
func TestP16DeedsThatAreLeftOut(t *testing.T) {
	w := exampleWorks()
	known := "ask 0, deliver 0, deliver 0"
	full := strings.Repeat(", ask 1", impl.MaxWire)
	halfBack := ", ask 0, deliver 0" + strings.Repeat(", ask 1", impl.MaxWire-1) // the note 0 is Back, all others are not
	for _, c := range []struct {
		deeds string
		bad   int64
	}{
		{"ask 4", impl.ErrRange}, {"ask 999", impl.ErrRange}, {known + ", ask 0", impl.ErrState}, {known + ", save, crash, ask 0", impl.ErrState},
		{"save" + full + ", ask 1", impl.ErrLimit}, {"save" + full + ", ask 3", impl.ErrLimit}, {known + full + ", ask 0", impl.ErrState}, {known + full + ", ask 4", impl.ErrRange}, {known + full + ", ask 1", impl.ErrLimit},
		{"deliver 0", impl.ErrRange}, {"deliver 999", impl.ErrRange}, {"ask 0, deliver 1", impl.ErrRange}, {"save" + full + ", deliver 10", impl.ErrRange},
		{"copy 0", impl.ErrRange}, {"copy 999", impl.ErrRange}, {"ask 0, copy 1", impl.ErrRange}, {"save" + full + ", copy 10", impl.ErrRange}, {"save" + full + ", copy 0", impl.ErrLimit}, {"save" + full + ", copy 9", impl.ErrLimit},
		{"save" + halfBack + ", copy 9", impl.ErrLimit}, {"save" + halfBack + ", copy 10", impl.ErrRange}, {"save" + halfBack + ", copy 1", impl.ErrLimit}, {"save" + full + ", deliver 0, copy 9, ask 2", impl.ErrLimit},
		{"drop 0", impl.ErrRange}, {"drop 999", impl.ErrRange}, {"ask 0, drop 1", impl.ErrRange}, {"save" + full + ", drop 10", impl.ErrRange}, {"ask 0, drop 0, drop 0", impl.ErrRange},
	} {
		deeds := deedsOf(t, c.deeds)
		wantDone(t, w, deeds)
		before := floorAfter(t, w, deeds[:len(deeds)-1])
		wantFloor(t, "a deed that is left out changes nothing", floorAfter(t, w, deeds), before)
		at, bad, code := impl.RefusedDeed(w, append(deeds, deedsOf(t, "ask 999, save")...))
		wantFound(t, "RefusedDeed "+c.deeds, [2]int64{at, bad}, code, [2]int64{int64(len(deeds) - 1), c.bad})
	}
	for _, texts := range []string{
		"save" + full, "save" + full + ", deliver 0", "save" + full + ", deliver 9", "save" + full + ", drop 9, ask 3", "save" + halfBack + ", copy 0, copy 0, deliver 0, copy 8",
		"save" + full + ", deliver 0, copy 9", "save" + full + ", drop 0, copy 8", known + ", crash, ask 0", known + ", save, crash, save", "save, crash", "save, save, crash, crash",
	} {
		deeds := deedsOf(t, texts)
		wantDone(t, w, deeds)
		at, bad, code := impl.RefusedDeed(w, deeds)
		wantNone(t, "RefusedDeed "+texts, [2]int64{at, bad}, code, impl.ErrNotFound)
	}
}

// The number of a deed that the floor does not have is out of range, as far as deeds can mention it.
func TestP16NumbersOfDeeds(t *testing.T) {
	for _, w := range []impl.Works{exampleWorks(), emptyWorks(), fullWorks()} {
		for a := range int64(1000) {
			for _, kind := range []int64{impl.DdAsk, impl.DdDeliver, impl.DdCopy, impl.DdDrop} {
				deeds := append(askTimes(0, 3), impl.Deed{Kind: kind, A: a})
				wantDone(t, w, deeds)
			}
		}
	}
}

// A crash takes from the office what is known and has not been saved, and nothing else.
func TestP16CrashesLoseNothingElse(t *testing.T) {
	r := newRandom(1611)
	crash := impl.Deed{Kind: impl.DdCrash}
	lost := 0
	for range 1000 {
		w := randomWorks(r)
		deeds := randomDeeds(r, len(oracleTasks(w)), r.IntN(80))
		before, after := floorAfter(t, w, deeds), floorAfter(t, w, append(deeds, crash))
		if !slices.Equal(before.Known, before.Saved) {
			lost++
		}
		wanted := before
		wanted.Known = before.Saved
		wantFloor(t, "a floor behind a crash", after, wanted)
		wantFloor(t, "a second crash changes nothing", floorAfter(t, w, append(deeds, crash, crash)), wanted)
		saved := floorAfter(t, w, append(deeds, impl.Deed{Kind: impl.DdSave}, crash))
		wanted.Known, wanted.Saved = before.Known, before.Known
		wantFloor(t, "a crash behind a save", saved, wanted)
	}
	wantTrue(t, "many crashes lose something", lost > 200)
}

// A note that is lost changes the wire alone, and a note that is copied does what a note does that is delivered.
func TestP16NotesThatAreLost(t *testing.T) {
	r := newRandom(1612)
	for range 1000 {
		w := randomWorks(r)
		deeds := randomDeeds(r, len(oracleTasks(w)), r.IntN(80))
		before := floorAfter(t, w, deeds)
		for at, n := range before.Wire {
			wanted := before
			wanted.Wire = slices.Delete(slices.Clone(before.Wire), at, at+1)
			lost := floorAfter(t, w, append(deeds, impl.Deed{Kind: impl.DdDrop, A: int64(at)}))
			wantFloor(t, "a floor behind a note that is lost", lost, wanted)
			if !n.Back && len(before.Wire) == impl.MaxWire {
				continue
			}
			copied := floorAfter(t, w, append(deeds, impl.Deed{Kind: impl.DdCopy, A: int64(at)}))
			delivered := floorAfter(t, w, append(deeds, impl.Deed{Kind: impl.DdDeliver, A: int64(at)}))
			copied.Wire = slices.Delete(copied.Wire, at, at+1)
			wantFloor(t, "a note that is copied, but for the note itself", copied, delivered)
		}
	}
}

// Whatever is done, a vat has the drops of the tasks in the books, and each is in the book of its room alone.
func TestP16NoTaskIsPouredTwice(t *testing.T) {
	r := newRandom(1613)
	for range 1500 {
		w := randomWorks(r)
		tasks := oracleTasks(w)
		f := wantDone(t, w, randomDeeds(r, len(tasks), r.IntN(impl.MaxDeeds+1)))
		vats := make([]impl.Vat, len(w.Batches))
		for n, task := range tasks {
			for room, book := range f.Books {
				wantTrue(t, "a task is in the book of its own room alone", !book[n] || n%int(w.Rooms) == room)
				if book[n] {
					vats[task.Batch][task.Jar] += task.Drops
				}
			}
			poured := f.Books[n%int(w.Rooms)][n]
			wantTrue(t, "what is known has been poured, and what is saved is known", (poured || !f.Known[n]) && (f.Known[n] || !f.Saved[n]))
		}
		wantTrue(t, "the vats have what the books tell", slices.Equal(f.Vats, vats))
		for _, n := range f.Wire {
			wantTrue(t, "a note that is Back is of a task that has been poured", !n.Back || f.Books[n.Task%w.Rooms][n.Task])
		}
	}
}

// All short lists of deeds, on a floor with two tasks in two rooms.
func TestP16AllShortLists(t *testing.T) {
	w := worksOf(2, impl.Batch{Name: "a", Drops: impl.Vat{3, 0, 0, 0, 0, 0, 0, 4}})
	kinds := deedsOf(t, "ask 0, ask 1, deliver 0, deliver 1, copy 0, drop 0, save, crash")
	deeds := make([]impl.Deed, 5)
	for n := range 8 * 8 * 8 * 8 * 8 {
		for i := range deeds {
			deeds[i] = kinds[n%8]
			n /= 8
		}
		oracle, _ := oracleDone(w, deeds)
		if f := floorAfter(t, w, deeds); !sameFloor(f, oracle.floor()) {
			t.Fatalf("FloorAfter %v: got %v, want %v", deeds, f, oracle.floor())
		}
	}
}

// A task that is asked, copied and delivered many times is poured once, also behind crashes.
func TestP16ATaskIsPouredOnce(t *testing.T) {
	for rooms := int64(1); rooms <= impl.MaxRooms; rooms++ {
		w := exampleWorks()
		w.Rooms = rooms
		for task := range int64(4) {
			var deeds []impl.Deed
			for n := range 20 {
				deeds = append(deeds, impl.Deed{Kind: impl.DdAsk, A: task}, impl.Deed{Kind: impl.DdCopy}, impl.Deed{Kind: impl.DdDeliver}, impl.Deed{Kind: impl.DdDeliver}, impl.Deed{Kind: impl.DdDeliver})
				if n%3 == 2 {
					deeds = append(deeds, impl.Deed{Kind: impl.DdCrash}, impl.Deed{Kind: impl.DdCrash})
				}
			}
			f := wantDone(t, w, deeds)
			one := tasksOf(t, w)[task]
			for batch, vat := range f.Vats {
				wanted := impl.Vat{}
				if int64(batch) == one.Batch {
					wanted = vatBut(int(one.Jar), one.Drops)
				}
				want(t, "a vat", vat, wanted)
			}
		}
	}
}
