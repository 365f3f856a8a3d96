package tests

import (
	"math/rand/v2"
	"slices"
	"strconv"
	"strings"
	"testing"

	"loop.example/g01213/impl"
)

// flatVat has the same drops in all jars.
func flatVat(drops int64) impl.Vat {
	var v impl.Vat
	for jar := range v {
		v[jar] = drops
	}
	return v
}

// vatBut has no drops but those of one jar.
func vatBut(jar int, drops int64) impl.Vat {
	var v impl.Vat
	v[jar] = drops
	return v
}

func worksOf(rooms int64, list ...impl.Batch) impl.Works {
	return impl.Works{Rooms: rooms, Batches: list}
}

// exampleWorks are the works of the example of chapter 7.
func exampleWorks() impl.Works {
	return worksOf(2, impl.Batch{Name: "sky", Drops: impl.Vat{5, 0, 0, 2}}, impl.Batch{Name: "sea", Drops: impl.Vat{10, 0, 0, 4}})
}

// emptyWorks have no task.
func emptyWorks() impl.Works { return worksOf(3, impl.Batch{Name: "none"}) }

// fullWorks have as much of all as works can have, so that there are 48 tasks, and all names are of the greatest length.
func fullWorks() impl.Works {
	w := worksOf(impl.MaxRooms)
	for i := range impl.MaxBatches {
		w.Batches = append(w.Batches, impl.Batch{Name: "abcdefghijk" + string(rune('l'+i)), Drops: flatVat(impl.MaxPoured)})
	}
	return w
}

// randomWorks have some jars without drops, and some at the ends.
func randomWorks(r *rand.Rand) impl.Works {
	w := worksOf(1 + r.Int64N(impl.MaxRooms))
	for i := range 1 + r.IntN(impl.MaxBatches) {
		b := impl.Batch{Name: strings.Repeat(string(rune('a'+i)), 1+r.IntN(12))}
		for jar := range b.Drops {
			b.Drops[jar] = []int64{0, 0, 1, impl.MaxPoured, r.Int64N(impl.MaxPoured), 7}[r.IntN(6)]
		}
		w.Batches = append(w.Batches, b)
	}
	return w
}

type badWorks struct {
	name  string
	works impl.Works
}

// notWorks are not valid by one thing alone.
func notWorks() []badWorks {
	seven := fullWorks()
	seven.Batches = append(seven.Batches, impl.Batch{Name: "seven"})
	list := []badWorks{
		{"nothing", impl.Works{}}, {"no batch", worksOf(1)}, {"an empty list", impl.Works{Rooms: 1, Batches: []impl.Batch{}}},
		{"one batch more than MaxBatches", seven}, {"many batches", impl.Works{Rooms: 1, Batches: make([]impl.Batch, 100000)}},
	}
	for _, rooms := range []int64{0, -1, impl.MaxRooms + 1, 1 << 32, 1<<32 + 1, -1 << 63, 1<<63 - 1} {
		w := exampleWorks()
		w.Rooms = rooms
		list = append(list, badWorks{"such rooms", w})
	}
	for _, name := range notNames() {
		for i := range 2 {
			w := exampleWorks()
			w.Batches[i].Name = name
			list = append(list, badWorks{"the name " + strconv.Quote(name), w})
		}
	}
	for i := range impl.MaxBatches {
		for j := range i {
			w := fullWorks()
			w.Batches[i].Name = w.Batches[j].Name
			list = append(list, badWorks{"two equal names", w})
		}
		for jar := range impl.MaxJars {
			for _, drops := range []int64{-1, impl.MaxPoured + 1, 1 << 32, -1 << 63, 1<<63 - 1} {
				w := fullWorks()
				w.Batches[i].Drops[jar] = drops
				list = append(list, badWorks{"such drops", w})
			}
		}
	}
	return list
}

func notNames() []string {
	return []string{"", "abcdefghijklm", strings.Repeat("a", 100), "A", "aB", "Sky", " a", "a ", "a b", "a1", "1", "a-b", "a_", "`", "{", "a{", "a\n", "a\r", "\x00", "\xff", "\xe1", "é", "aé", "ａ"}
}

// deedsOf reads deeds of which the texts are separated by commas.
func deedsOf(t *testing.T, texts string) []impl.Deed {
	t.Helper()
	var list []impl.Deed
	for _, text := range strings.Split(texts, ", ") {
		d, code := impl.ReadDeed(text)
		wantCode(t, "ReadDeed "+text, code, impl.OK)
		list = append(list, d)
	}
	return list
}

// manyDeeds has one deed many times.
func manyDeeds(d impl.Deed, count int) []impl.Deed { return slices.Repeat([]impl.Deed{d}, count) }

// askTimes asks for a task many times.
func askTimes(task int64, count int) []impl.Deed {
	return manyDeeds(impl.Deed{Kind: impl.DdAsk, A: task}, count)
}

// notDeeds are deeds that are not valid.
func notDeeds() []impl.Deed {
	list := []impl.Deed{{}, {Kind: 0, A: 1}, {Kind: -1}, {Kind: 7}, {Kind: 7, A: 5}, {Kind: 1<<32 + 1}, {Kind: -1 << 63}, {Kind: 1<<63 - 1}}
	for kind := int64(impl.DdAsk); kind <= impl.DdCrash; kind++ {
		for _, a := range []int64{-1, 1000, 1 << 32, -1 << 63, 1<<63 - 1} {
			list = append(list, impl.Deed{Kind: kind, A: a})
		}
	}
	for _, a := range []int64{1, 2, 999} {
		list = append(list, impl.Deed{Kind: impl.DdSave, A: a}, impl.Deed{Kind: impl.DdCrash, A: a})
	}
	return list
}

// randomDeeds mostly mention tasks and notes that are there.
func randomDeeds(r *rand.Rand, tasks, count int) []impl.Deed {
	kinds := []int64{impl.DdAsk, impl.DdAsk, impl.DdAsk, impl.DdDeliver, impl.DdDeliver, impl.DdDeliver, impl.DdCopy, impl.DdDrop, impl.DdSave, impl.DdCrash}
	var list []impl.Deed
	for range count {
		d := impl.Deed{Kind: kinds[r.IntN(len(kinds))]}
		switch d.Kind {
		case impl.DdAsk:
			d.A = r.Int64N(min(int64(tasks), 1+r.Int64N(6)) + 1)
		case impl.DdDeliver, impl.DdCopy, impl.DdDrop:
			d.A = r.Int64N(1 + r.Int64N(impl.MaxWire+1))
		}
		list = append(list, d)
	}
	return list
}

func tasksOf(t *testing.T, w impl.Works) []impl.Task {
	t.Helper()
	list, code := impl.TasksOf(w)
	wantCode(t, "TasksOf", code, impl.OK)
	return list
}

func floorAfter(t *testing.T, w impl.Works, deeds []impl.Deed) impl.Floor {
	t.Helper()
	f, _, code := impl.FloorAfter(w, deeds)
	wantCode(t, "FloorAfter", code, impl.OK)
	return f
}

func finishDeeds(t *testing.T, w impl.Works, deeds []impl.Deed) []impl.Deed {
	t.Helper()
	plan, code := impl.FinishDeeds(w, deeds)
	wantCode(t, "FinishDeeds", code, impl.OK)
	return plan
}

// sameFloor is told without the program.
func sameFloor(f, g impl.Floor) bool {
	return slices.Equal(f.Vats, g.Vats) && slices.EqualFunc(f.Books, g.Books, slices.Equal) &&
		slices.Equal(f.Known, g.Known) && slices.Equal(f.Saved, g.Saved) && slices.Equal(f.Wire, g.Wire)
}

func wantFloor(t *testing.T, name string, got, wanted impl.Floor) {
	t.Helper()
	if !sameFloor(got, wanted) {
		t.Errorf("%s: got %v, want %v", name, got, wanted)
	}
}

func wantNoFloor(t *testing.T, name string, f impl.Floor, done, code, wanted int64) {
	t.Helper()
	wantNone(t, name, done, code, wanted)
	want(t, name+", what is on the floor beside an error", len(f.Vats)+len(f.Books)+len(f.Known)+len(f.Saved)+len(f.Wire), 0)
}

func wantDeeds(t *testing.T, name string, got []impl.Deed, code int64, wanted []impl.Deed) {
	t.Helper()
	wantCode(t, name, code, impl.OK)
	if !slices.Equal(got, wanted) {
		t.Errorf("%s: got %v, want %v", name, got, wanted)
	}
}

func wantWorks(t *testing.T, name string, got impl.Works, code int64, wanted impl.Works) {
	t.Helper()
	wantCode(t, name, code, impl.OK)
	if got.Rooms != wanted.Rooms || !slices.Equal(got.Batches, wanted.Batches) {
		t.Errorf("%s: got %v, want %v", name, got, wanted)
	}
}

// wantNoOrders asks for the error of orders, and its line.
func wantNoOrders(t *testing.T, text string, line, wanted int64) {
	t.Helper()
	w, at, code := impl.CompileOrders(text)
	if w.Rooms != 0 || len(w.Batches) != 0 || at != line || code != wanted {
		t.Errorf("CompileOrders(%.200q): got %v, the line %d and the code %d, want the line %d and the code %d", text, w, at, code, line, wanted)
	}
}

// wantOrders asks for works with such rooms and batches.
func wantOrders(t *testing.T, text string, wanted impl.Works) {
	t.Helper()
	w, at, code := impl.CompileOrders(text)
	wantWorks(t, "CompileOrders "+text, w, code, wanted)
	want(t, "the line beside OK", at, 0)
}
