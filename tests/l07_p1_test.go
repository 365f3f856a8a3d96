package tests

import (
	"fmt"
	"runtime"
	"slices"
	"strings"
	"testing"
	"time"

	"loop.example/g01213/impl"
)

func TestP1LimitsOfWorks(t *testing.T) {
	limits := [...]int{impl.MaxBatches, impl.MaxRooms, impl.MaxJars, impl.MaxPoured, impl.MaxOrderText, impl.MaxOrderLines, impl.MaxWire, impl.MaxDeeds, impl.MaxScriptText, impl.MaxScriptLines}
	want(t, "the limits of chapter 7", limits, [...]int{6, 4, 8, 100000, 2000, 60, 10, 300, 10000, 120})
	kinds := [...]int{impl.DdAsk, impl.DdDeliver, impl.DdCopy, impl.DdDrop, impl.DdSave, impl.DdCrash}
	want(t, "the kinds of deeds", kinds, [...]int{1, 2, 3, 4, 5, 6})
}

func TestP1ValidWorks(t *testing.T) {
	r := newRandom(711)
	for range 200 {
		wantTrue(t, "ValidWorks", impl.ValidWorks(randomWorks(r)))
	}
	wantTrue(t, "ValidWorks, full and empty ones", impl.ValidWorks(fullWorks()) && impl.ValidWorks(emptyWorks()))
	for rooms := range int64(impl.MaxRooms + 2) {
		w := exampleWorks()
		w.Rooms = rooms
		want(t, "ValidWorks with so many rooms", impl.ValidWorks(w), rooms >= 1 && rooms <= impl.MaxRooms)
	}
	for count := range impl.MaxBatches + 1 {
		w := fullWorks()
		w.Batches = w.Batches[:count]
		want(t, "ValidWorks with so many batches", impl.ValidWorks(w), count >= 1)
	}
	for _, name := range []string{"a", "z", "az", "abcdefghijkl", "nopqrstuvwxy", "zzzzzzzzzzzz"} {
		wantTrue(t, "ValidWorks with the name "+name, impl.ValidWorks(worksOf(1, impl.Batch{Name: name})))
	}
	for jar := range impl.MaxJars {
		for _, drops := range []int64{0, 1, impl.MaxPoured - 1, impl.MaxPoured} {
			wantTrue(t, "ValidWorks with such drops", impl.ValidWorks(worksOf(1, impl.Batch{Name: "a", Drops: vatBut(jar, drops)})))
		}
	}
	wantTrue(t, "names may begin alike", impl.ValidWorks(worksOf(1, impl.Batch{Name: "a"}, impl.Batch{Name: "aa"}, impl.Batch{Name: "aaa"})))
	for _, bad := range notWorks() {
		wantTrue(t, "ValidWorks, "+bad.name, !impl.ValidWorks(bad.works))
	}
}

func TestP1SameWorks(t *testing.T) {
	for _, w := range []impl.Works{exampleWorks(), fullWorks(), emptyWorks(), {}, worksOf(-5, impl.Batch{Name: "\xff", Drops: flatVat(-1)}, impl.Batch{Name: "\xff"})} {
		other := w
		other.Batches = slices.Clone(w.Batches)
		wantTrue(t, "works are the same as themselves", impl.SameWorks(w, other) && impl.SameWorks(w, w))
		other.Rooms++
		wantTrue(t, "other rooms", !impl.SameWorks(w, other) && !impl.SameWorks(other, w))
		longer := w
		longer.Batches = append(slices.Clone(w.Batches), impl.Batch{})
		wantTrue(t, "one batch more", !impl.SameWorks(w, longer) && !impl.SameWorks(longer, w))
	}
	wantTrue(t, "a nil list and an empty one are the same", impl.SameWorks(impl.Works{}, impl.Works{Batches: []impl.Batch{}}))
	full := fullWorks()
	for i := range full.Batches {
		other := fullWorks()
		other.Batches[i].Name += "x"
		wantTrue(t, "another name", !impl.SameWorks(full, other))
		for jar := range impl.MaxJars {
			other = fullWorks()
			other.Batches[i].Drops[jar]--
			wantTrue(t, "other drops", !impl.SameWorks(full, other) && !impl.SameWorks(other, full))
		}
	}
	turned := exampleWorks()
	slices.Reverse(turned.Batches)
	wantTrue(t, "another order", !impl.SameWorks(exampleWorks(), turned))
}

func TestP1ValidDeeds(t *testing.T) {
	for kind := int64(impl.DdAsk); kind <= impl.DdDrop; kind++ {
		for _, a := range []int64{0, 1, 9, 10, 500, 998, 999} {
			wantTrue(t, "ValidDeed with a number", impl.ValidDeed(impl.Deed{Kind: kind, A: a}))
		}
	}
	wantTrue(t, "ValidDeed without a number", impl.ValidDeed(impl.Deed{Kind: impl.DdSave}) && impl.ValidDeed(impl.Deed{Kind: impl.DdCrash}))
	for _, d := range notDeeds() {
		wantTrue(t, fmt.Sprint("ValidDeed, ", d), !impl.ValidDeed(d))
		want(t, "the text of no deed", impl.DeedText(d), "")
	}
}

// Works that are not valid come first, whatever is wrong beside them.
func TestP1WorksThatAreNotValid(t *testing.T) {
	lists := [][]impl.Deed{nil, {{Kind: impl.DdSave}}, {{Kind: impl.DdAsk, A: 999}}, {{}}, manyDeeds(impl.Deed{Kind: impl.DdSave}, impl.MaxDeeds+1)}
	for _, bad := range notWorks() {
		want(t, "OrdersText, "+bad.name, impl.OrdersText(bad.works), "")
		tasks, code := impl.TasksOf(bad.works)
		wantNoList(t, "TasksOf, "+bad.name, tasks, code, impl.ErrInvalid)
		total, code := impl.TotalOf(bad.works)
		wantNone(t, "TotalOf, "+bad.name, total, code, impl.ErrInvalid)
		for _, deeds := range lists {
			wantNothingDone(t, bad.name, bad.works, deeds, impl.ErrInvalid)
		}
		for _, text := range []string{"", "agreed\n", strings.Repeat("\n", impl.MaxScriptLines+1), strings.Repeat("x", impl.MaxScriptText+1)} {
			out, code := impl.RunScript(bad.works, text)
			wantNone(t, "RunScript, "+bad.name, out, code, impl.ErrInvalid)
		}
	}
}

// wantNothingDone asks all functions of deeds for one error.
func wantNothingDone(t *testing.T, name string, w impl.Works, deeds []impl.Deed, wanted int64) {
	t.Helper()
	f, done, code := impl.FloorAfter(w, deeds)
	wantNoFloor(t, "FloorAfter, "+name, f, done, code, wanted)
	at, refused, code := impl.RefusedDeed(w, deeds)
	wantNone(t, "RefusedDeed, "+name, [2]int64{at, refused}, code, wanted)
	for _, batch := range []int64{-1, 0, 1, 6, 1 << 32} {
		vat, code := impl.VatAfter(w, deeds, batch)
		wantNone(t, "VatAfter, "+name, vat, code, wanted)
	}
	agreed, code := impl.IsAgreed(w, deeds)
	wantNone(t, "IsAgreed, "+name, agreed, code, wanted)
	plan, code := impl.FinishDeeds(w, deeds)
	wantNoList(t, "FinishDeeds, "+name, plan, code, wanted)
}

// A deed that is not valid comes first as well, wherever it is, and also where there are too many.
func TestP1DeedsThatAreNotValid(t *testing.T) {
	save := impl.Deed{Kind: impl.DdSave}
	for _, bad := range notDeeds() {
		for _, deeds := range [][]impl.Deed{{bad}, {save, bad}, {bad, save}, {save, bad, save}, {bad, bad}} {
			wantNothingDone(t, fmt.Sprint(bad), exampleWorks(), deeds, impl.ErrInvalid)
			wantNothingDone(t, fmt.Sprint(bad), emptyWorks(), deeds, impl.ErrInvalid)
		}
		for _, count := range []int{impl.MaxDeeds - 1, impl.MaxDeeds, impl.MaxDeeds + 1, 1000} {
			wantNothingDone(t, fmt.Sprint("behind many, ", bad), exampleWorks(), append(manyDeeds(save, count), bad), impl.ErrInvalid)
			wantNothingDone(t, fmt.Sprint("ahead of many, ", bad), exampleWorks(), append([]impl.Deed{bad}, manyDeeds(save, count)...), impl.ErrInvalid)
		}
	}
}

func TestP1ManyDeeds(t *testing.T) {
	for _, d := range []impl.Deed{{Kind: impl.DdSave}, {Kind: impl.DdCrash}, {Kind: impl.DdAsk, A: 999}, {Kind: impl.DdAsk}} {
		for _, count := range []int{impl.MaxDeeds + 1, impl.MaxDeeds + 2, 1000000} {
			wantNothingDone(t, "too many deeds", exampleWorks(), manyDeeds(d, count), impl.ErrRange)
		}
		_, done, code := impl.FloorAfter(exampleWorks(), manyDeeds(d, impl.MaxDeeds))
		wantCode(t, "FloorAfter MaxDeeds", code, impl.OK)
		wanted := map[int64]int64{impl.DdSave: impl.MaxDeeds, impl.DdCrash: impl.MaxDeeds, impl.DdAsk: impl.MaxWire}[d.Kind]
		if d.A == 999 {
			wanted = 0
		}
		want(t, "how many of MaxDeeds are done", done, wanted)
	}
}

func TestP1BatchesOutOfRange(t *testing.T) {
	for _, w := range []impl.Works{exampleWorks(), emptyWorks(), fullWorks()} {
		count := int64(len(w.Batches))
		for _, deeds := range [][]impl.Deed{nil, deedsOf(t, "ask 0, deliver 0, ask 999")} {
			for _, batch := range []int64{-1, count, count + 1, 1 << 32, -1 << 63, 1<<63 - 1} {
				vat, code := impl.VatAfter(w, deeds, batch)
				wantNone(t, "VatAfter of no batch", vat, code, impl.ErrRange)
			}
			for batch := range count {
				vat, code := impl.VatAfter(w, deeds, batch)
				wantFound(t, "VatAfter", vat, code, floorAfter(t, w, deeds).Vats[batch])
			}
		}
	}
}

// Lists have memory of their own, and what is passed in is neither changed nor kept.
func TestP1WorksAreNotChanged(t *testing.T) {
	batches := append(exampleWorks().Batches, impl.Batch{Name: "behind"}, impl.Batch{})
	kept := slices.Clone(batches)
	w := impl.Works{Rooms: 2, Batches: batches[:2]}
	room := append(deedsOf(t, "ask 0, ask 1, copy 0, deliver 0, deliver 1, save, ask 3, crash"), impl.Deed{Kind: -1}, impl.Deed{})
	deeds, keptDeeds := room[:8], slices.Clone(room)
	first := workResultsOf(w, deeds, "ask 0\ndeliver 0\nvat 0\nagreed")
	wantTrue(t, "works that are passed in are not changed", slices.Equal(batches, kept))
	wantTrue(t, "deeds that are passed in are not changed", slices.Equal(room, keptDeeds))
	floor, tasks, plan := floorAfter(t, w, deeds), tasksOf(t, w), finishDeeds(t, w, deeds)
	other, otherTasks, otherPlan := floorAfter(t, w, deeds), tasksOf(t, w), finishDeeds(t, w, deeds)
	for i := range batches {
		batches[i] = impl.Batch{Name: "changed"}
	}
	for i := range room {
		room[i] = impl.Deed{}
	}
	oracle, _ := oracleDone(exampleWorks(), keptDeeds[:8])
	wantFloor(t, "a floor that is returned", floor, oracle.floor())
	wantTrue(t, "tasks that are returned", slices.Equal(tasks, oracle.tasks))
	wantTrue(t, "deeds that are returned", slices.Equal(plan, oracle.plan()))
	spoilFloor(floor, tasks, plan)
	wantFloor(t, "another floor", other, oracle.floor())
	wantTrue(t, "other lists", slices.Equal(otherTasks, oracle.tasks) && slices.Equal(otherPlan, oracle.plan()))
	want(t, "all results once more", workResultsOf(exampleWorks(), keptDeeds[:8], "ask 0\ndeliver 0\nvat 0\nagreed"), first)
}

// spoilFloor writes into all memory of results.
func spoilFloor(f impl.Floor, tasks []impl.Task, plan []impl.Deed) {
	for _, book := range append(f.Books, f.Known, f.Saved) {
		for i := range book {
			book[i] = !book[i]
		}
	}
	for i := range f.Vats {
		f.Vats[i] = flatVat(-1)
	}
	for i := range f.Wire {
		f.Wire[i].Task = 99
	}
	for i := range tasks {
		tasks[i] = impl.Task{}
	}
	for i := range plan {
		plan[i] = impl.Deed{}
	}
}

// No two lists of a floor share memory.
func TestP1ListsOfAFloor(t *testing.T) {
	w := exampleWorks()
	deeds := deedsOf(t, "ask 0, ask 1, deliver 0, deliver 0, deliver 0, save, ask 2")
	wanted := floorAfter(t, w, deeds)
	for n := range 2 + len(wanted.Books) {
		f := floorAfter(t, w, deeds)
		lists := append([][]bool{f.Known, f.Saved}, f.Books...)
		changed := lists[n][:cap(lists[n])]
		for i := range changed {
			changed[i] = !changed[i]
		}
		others := append([][]bool{wanted.Known, wanted.Saved}, wanted.Books...)
		for m := range lists {
			want(t, "a list of a floor is as it was", slices.Equal(lists[m], others[m]), m != n)
		}
	}
}

// Arguments of any kind have equal results, and none makes a function panic.
func TestP1EqualResultsOfWorks(t *testing.T) {
	r := newRandom(712)
	bad, badOnes := notWorks(), notDeeds()
	for n := range 300 {
		w := randomWorks(r)
		deeds := randomDeeds(r, len(oracleTasks(w)), r.IntN(impl.MaxDeeds+3))
		if n%5 == 0 {
			w = bad[r.IntN(len(bad))].works
		}
		if n%7 == 0 {
			deeds = append(deeds, badOnes[r.IntN(len(badOnes))])
		}
		text := randomScript(r)
		want(t, "the results of a second call", workResultsOf(w, deeds, text), workResultsOf(w, deeds, text))
	}
}

// workResultsOf has all that the functions of chapter 7 tell of these arguments.
func workResultsOf(w impl.Works, deeds []impl.Deed, text string) string {
	var all []any
	add := func(more ...any) { all = append(all, more...) }
	add(impl.ValidWorks(w), impl.SameWorks(w, w), impl.OrdersText(w))
	add(pairOf(impl.CompileOrders(impl.OrdersText(w)))...)
	add(pairOf(impl.CompileOrders(text))...)
	tasks, code := impl.TasksOf(w)
	add(tasks, code)
	total, code := impl.TotalOf(w)
	add(total, code)
	for _, d := range deeds {
		add(impl.ValidDeed(d), impl.DeedText(d))
	}
	add(pairOf(impl.FloorAfter(w, deeds))...)
	add(pairOf(impl.RefusedDeed(w, deeds))...)
	for batch := int64(-1); batch < 7; batch++ {
		vat, code := impl.VatAfter(w, deeds, batch)
		add(vat, code)
	}
	agreed, code := impl.IsAgreed(w, deeds)
	add(agreed, code)
	plan, code := impl.FinishDeeds(w, deeds)
	add(plan, code)
	out, code := impl.RunScript(w, text)
	add(out, code)
	return fmt.Sprint(all...)
}

func pairOf[T any](result T, number, code int64) []any { return []any{result, number, code} }

// All rooms have ended when a call returns.
func TestP1RoomsHaveEnded(t *testing.T) {
	before := runtime.NumGoroutine()
	for range 300 {
		workResultsOf(exampleWorks(), deedsOf(t, "ask 0, deliver 0, crash, copy 0, ask 9"), "ask 0\ndeliver 0\nwhat")
		workResultsOf(fullWorks(), nil, "")
		workResultsOf(emptyWorks(), askTimes(0, impl.MaxDeeds+1), strings.Repeat("\n", impl.MaxScriptLines+1))
	}
	for range 100 { // a goroutine that has said that it is done may need a moment to be gone
		if runtime.NumGoroutine() <= before {
			return
		}
		time.Sleep(time.Millisecond)
	}
	t.Errorf("there are %d goroutines, and were %d before", runtime.NumGoroutine(), before)
}

// On a single processor, a room that nobody waits for has not ended when its call returns.
func TestP1CallsWaitForTheirRooms(t *testing.T) {
	defer runtime.GOMAXPROCS(runtime.GOMAXPROCS(1))
	before, left := runtime.NumGoroutine(), 0
	for range 100 {
		floorAfter(t, fullWorks(), nil)
		if runtime.NumGoroutine() > before {
			left++
		}
	}
	wantTrue(t, "rooms have ended when a call returns", left < 50) // a few may have said so, and be about to end
}

// Calls at the same time do not meet each other.
func TestP1CallsAtTheSameTime(t *testing.T) {
	deeds := deedsOf(t, "ask 0, ask 1, ask 2, copy 1, deliver 0, deliver 0, save, deliver 0, crash, deliver 1, deliver 0")
	wanted := workResultsOf(exampleWorks(), deeds, "ask 3\ndeliver 0\nvat 1")
	found := make(chan string)
	for range 20 {
		go func() { found <- workResultsOf(exampleWorks(), deeds, "ask 3\ndeliver 0\nvat 1") }()
	}
	for range 20 {
		want(t, "the results of calls at the same time", <-found, wanted)
	}
}
