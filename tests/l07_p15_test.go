package tests

import (
	"math/rand/v2"
	"slices"
	"strconv"
	"strings"
	"testing"

	"loop.example/g01213/impl"
)

// P15, works are compiled from their texts, and tasks have all drops.

func TestP15TextsOfWorks(t *testing.T) {
	want(t, "OrdersText", impl.OrdersText(exampleWorks()), "rooms 2\nbatch sky\npour 0 5\npour 3 2\nbatch sea\npour 0 10\npour 3 4\n")
	want(t, "OrdersText without drops", impl.OrdersText(emptyWorks()), "rooms 3\nbatch none\n")
	r := newRandom(1501)
	for n := range 300 {
		w := randomWorks(r)
		if n == 0 {
			w = fullWorks()
		}
		wantOrders(t, impl.OrdersText(w), w)
		wantOrders(t, strings.TrimSuffix(impl.OrdersText(w), "\n"), w)
	}
}

func TestP15LinesOfOrders(t *testing.T) {
	a, b := impl.Batch{Name: "a"}, impl.Batch{Name: "b"}
	with := func(b impl.Batch, drops ...int64) impl.Batch {
		copy(b.Drops[:], drops)
		return b
	}
	for text, wanted := range map[string]impl.Works{
		"batch a":                          worksOf(1, a),
		"batch a\n":                        worksOf(1, a),
		"batch a\nbatch b":                 worksOf(1, a, b),
		"batch b\nbatch a\n":               worksOf(1, b, a),
		"rooms 4\nbatch a":                 worksOf(4, a),
		"batch a\nrooms 3\n":               worksOf(3, a),
		"rooms 2\nbatch a\nrooms 1":        worksOf(1, a),
		"rooms 4\nrooms 4\nbatch a":        worksOf(4, a),
		"batch abcdefghijkl":               worksOf(1, impl.Batch{Name: "abcdefghijkl"}),
		"batch batch\nbatch like\nbatch a": worksOf(1, impl.Batch{Name: "batch"}, impl.Batch{Name: "like"}, a),
		"batch a\npour 0 0":                worksOf(1, a),
		"batch a\npour 0 1":                worksOf(1, with(a, 1)),
		"batch a\npour 7 9":                worksOf(1, impl.Batch{Name: "a", Drops: vatBut(7, 9)}),
		"batch a\npour 0 1\npour 0 2\npour 1 5\npour 0 4":                         worksOf(1, with(a, 7, 5)),
		"batch a\npour 0 1\nbatch b\npour 1 2":                                    worksOf(1, with(a, 1), with(b, 0, 2)),
		"batch a\npour 0 100000":                                                  worksOf(1, with(a, impl.MaxPoured)),
		"batch a\npour 0 99999\npour 0 1\npour 0 0":                               worksOf(1, with(a, impl.MaxPoured)),
		"batch a\npour 0 3\npour 2 1\nbatch b\npour 0 4\nlike a\nlike a":          worksOf(1, with(a, 3, 0, 1), with(b, 10, 0, 2)),
		"batch a\npour 0 3\npour 7 1\nlike a":                                     worksOf(1, with(a, 6, 0, 0, 0, 0, 0, 0, 2)),
		"batch a\npour 5 1\nlike a\nlike a\nlike a":                               worksOf(1, with(a, 0, 0, 0, 0, 0, 8)),
		"batch a\npour 0 50000\nlike a":                                           worksOf(1, with(a, impl.MaxPoured)),
		"batch a\nlike a":                                                         worksOf(1, a),
		"batch a\nbatch b\npour 0 2\nlike a":                                      worksOf(1, a, with(b, 2)),
		"batch a\npour 0 100000\nbatch b\nlike a":                                 worksOf(1, with(a, impl.MaxPoured), with(b, impl.MaxPoured)),
		"batch a\npour 0 4\npour 1 1\nbatch b\npour 0 2\npour 1 3\ntimes 7":       worksOf(1, with(a, 4, 1), with(b, 14, 21)),
		"batch a\npour 0 4\ntimes 0":                                              worksOf(1, a),
		"batch a\npour 0 4\ntimes 1":                                              worksOf(1, with(a, 4)),
		"batch a\npour 0 100000\ntimes 0\npour 0 100000\ntimes 1":                 worksOf(1, with(a, impl.MaxPoured)),
		"batch a\ntimes 999999":                                                   worksOf(1, a),
		"batch a\npour 3 1\ntimes 100000":                                         worksOf(1, with(a, 0, 0, 0, impl.MaxPoured)),
		"batch a\npour 0 25000\npour 7 1\ntimes 4":                                worksOf(1, with(a, impl.MaxPoured, 0, 0, 0, 0, 0, 0, 4)),
		"batch a\nbatch b\nbatch c\nbatch d\nbatch e\nbatch f\npour 0 1\ntimes 2": worksOf(1, a, b, impl.Batch{Name: "c"}, impl.Batch{Name: "d"}, impl.Batch{Name: "e"}, impl.Batch{Name: "f", Drops: vatBut(0, 2)}),
	} {
		wantOrders(t, text, wanted)
	}
}

// notLines are lines that are no orders.
func notLines() []string {
	return []string{
		"", " ", "  ", "what", "rooms", "batch", "pour", "like", "times", "rooms ", "batch ", "pour ", "like ", "times ", "pour 0", "pour 0 ", "pour  0", "pour 0 1 ", " pour 0 1", "pour 0  1", "pour  0 1", "pour 0 1 2", "pour\t0 1", "pour 0\t1", "pour 0 1\r", "pour 0 1\t",
		"Rooms 1", "ROOMS 1", "room 1", "roomss 1", "rooms1", "rooms 1 1", "rooms  1", "rooms 1 ", " rooms 1", "rooms a", "rooms -1", "rooms +1", "rooms 01", "rooms 00", "rooms 1.0", "rooms 1e0", "rooms 0x1", "rooms 1_0", "rooms 0000001", "rooms 1000000", "rooms 1234567", "rooms ١", "rooms １", "rooms 18446744073709551617", "rooms 9223372036854775808",
		"batch A", "batch aB", "batch a1", "batch 1", "batch abcdefghijklm", "batch " + strings.Repeat("a", 100), "batch a b", "batch  a", "batch a ", " batch a", "batch é", "batch a\xff", "batch a\x00", "batch a-b", "Batch a", "batches a", "batch\ta", "batch a\r",
		"pour a 1", "pour 0 a", "pour a", "pour 1", "pour 00 1", "pour 0 01", "pour 0 00", "pour -1 1", "pour 0 -1", "pour +0 1", "pour 0 +1", "pour 0 -0", "pour -0 0", "pour 0 1000000", "pour 0 1234567", "pour 1000000 0", "pour 0000000 0", "pour 0 0000000", "pour 0 1.5", "pour 0 1e1", "pour 0,1", "pour 0 99999999999999999999", "pour 0 18446744073709551617", "Pour 0 1", "pours 0 1",
		"like A", "like a1", "like abcdefghijklm", "like a a", "like  a", "like a ", " like a", "like 0", "Like a", "likes a", "like é",
		"times a", "times 01", "times 00", "times -1", "times -0", "times +1", "times 1000000", "times 1234567", "times 1 1", "times  1", "times 1 ", " times 1", "times 1.0", "Times 1", "time 1", "times 0x1",
		"rooms 1 batch a", "rooms\x001", "rooms 1\x00", "\xff", "a", "0", "1 rooms", "agreed", "vat 0", "save", "ask 0", "#", "// batch a", "batch a;batch b",
	}
}

// A line that is none is told by its number, whether there is a batch ahead of it or not, and whatever is wrong behind it.
func TestP15LinesThatAreNoOrders(t *testing.T) {
	for _, line := range notLines() {
		if line == "" {
			continue // this is told where lines are counted
		}
		for _, behind := range []string{"", "\n", "\nbatch a", "\nrooms 9", "\nwhat\n"} {
			wantNoOrders(t, line+behind, 0, impl.ErrSyntax)
			wantNoOrders(t, "batch a\n"+line+behind, 1, impl.ErrSyntax)
			wantNoOrders(t, "rooms 2\nbatch a\npour 0 1\n"+line+behind, 3, impl.ErrSyntax)
		}
	}
}

func TestP15EmptyLines(t *testing.T) {
	for text, line := range map[string]int64{
		"\n": 0, "\n\n": 0, "\nbatch a": 0, "batch a\n\n": 1, "batch a\n\nbatch b": 1, "batch a\n\n\n": 1, "batch a\nbatch b\n\n": 2, "rooms 2\n\n": 1, "batch a\n \n": 1, "\n\nrooms 9": 0, "batch a\r\nbatch b": 0, "batch a\n\r\n": 1,
	} {
		wantNoOrders(t, text, line, impl.ErrSyntax)
	}
}

// Works without a batch are told behind all lines.
func TestP15OrdersWithoutABatch(t *testing.T) {
	for text, line := range map[string]int64{"": 0, "rooms 1": 1, "rooms 1\n": 1, "rooms 4\nrooms 2": 2, "rooms 4\nrooms 2\n": 2, strings.Repeat("rooms 3\n", 60): 60} {
		wantNoOrders(t, text, line, impl.ErrState)
	}
}

// Each error of each line, and which comes first.
func TestP15ErrorsOfOrders(t *testing.T) {
	six := "batch a\nbatch b\nbatch c\nbatch d\nbatch e\nbatch f\n"
	for _, c := range []struct {
		text       string
		line, code int64
	}{
		{"rooms 0", 0, impl.ErrRange}, {"rooms 5", 0, impl.ErrRange}, {"rooms 999999", 0, impl.ErrRange}, {"rooms 10", 0, impl.ErrRange}, {"batch a\nrooms 0\n", 1, impl.ErrRange}, {"rooms 4\nrooms 5", 1, impl.ErrRange},
		{"batch a\nbatch a", 1, impl.ErrState}, {"batch a\nbatch b\nbatch a", 2, impl.ErrState}, {"batch a\npour 0 1\nrooms 2\nbatch a", 3, impl.ErrState},
		{six + "batch g", 6, impl.ErrLimit}, {six + "batch a", 6, impl.ErrState}, {six + "batch f", 6, impl.ErrState}, {six + "batch G", 6, impl.ErrSyntax}, {six + "pour 0 1\nbatch g\nwhat", 7, impl.ErrLimit},
		{"pour 0 1", 0, impl.ErrState}, {"pour 8 1", 0, impl.ErrState}, {"pour 999999 999999", 0, impl.ErrState}, {"rooms 2\npour 0 1\nbatch a", 1, impl.ErrState}, {"pour 0 0", 0, impl.ErrState},
		{"batch a\npour 8 1", 1, impl.ErrRange}, {"batch a\npour 8 0", 1, impl.ErrRange}, {"batch a\npour 9 999999", 1, impl.ErrRange}, {"batch a\npour 999999 1", 1, impl.ErrRange}, {"batch a\npour 10 1", 1, impl.ErrRange},
		{"batch a\npour 0 100001", 1, impl.ErrLimit}, {"batch a\npour 7 999999", 1, impl.ErrLimit}, {"batch a\npour 0 100000\npour 0 1", 2, impl.ErrLimit}, {"batch a\npour 0 1\npour 0 100000", 2, impl.ErrLimit}, {"batch a\npour 0 60000\npour 1 60000\npour 0 40001", 3, impl.ErrLimit},
		{"like a", 0, impl.ErrState}, {"rooms 1\nlike a\nbatch a", 1, impl.ErrState}, {"batch a\nlike b", 1, impl.ErrNotFound}, {"batch a\nlike aa\n", 1, impl.ErrNotFound}, {"batch aa\nlike a", 1, impl.ErrNotFound}, {"batch a\nlike b\nbatch b", 1, impl.ErrNotFound}, {"batch a\npour 0 100000\nlike b", 2, impl.ErrNotFound},
		{"batch a\npour 0 50001\nlike a", 2, impl.ErrLimit}, {"batch a\npour 7 50001\nlike a", 2, impl.ErrLimit}, {"batch a\npour 3 100000\nbatch b\npour 3 1\nlike a", 4, impl.ErrLimit}, {"batch a\npour 0 1\npour 7 100000\nbatch b\nlike a\nlike a", 5, impl.ErrLimit},
		{"times 1", 0, impl.ErrState}, {"times 0\nbatch a", 0, impl.ErrState}, {"times 999999", 0, impl.ErrState}, {"batch a\npour 0 50001\ntimes 2", 2, impl.ErrLimit}, {"batch a\npour 0 33334\ntimes 3", 2, impl.ErrLimit}, {"batch a\npour 0 1\ntimes 100001", 2, impl.ErrLimit},
		{"batch a\npour 0 100000\ntimes 999999", 2, impl.ErrLimit}, {"batch a\npour 0 1\npour 7 100000\ntimes 2", 3, impl.ErrLimit}, {"batch a\npour 6 2\ntimes 50001", 2, impl.ErrLimit},
		{"rooms 5\nwhat", 0, impl.ErrRange}, {"what\nrooms 5", 0, impl.ErrSyntax}, {"batch a\nlike b\npour 8 1", 1, impl.ErrNotFound}, {"rooms 1\nrooms 2\nrooms 3\nwhat", 3, impl.ErrSyntax},
	} {
		wantNoOrders(t, c.text, c.line, c.code)
		wantNoOrders(t, c.text+"\nwhat\nrooms 9", c.line, c.code)
	}
}

// Texts with too many bytes or lines come first, with the line 0, whatever the lines are.
func TestP15TextsThatAreTooLong(t *testing.T) {
	sixty := "batch a\npour 1 1\n" + strings.Repeat("times 1\n", 58)
	wanted := worksOf(1, impl.Batch{Name: "a", Drops: vatBut(1, 1)})
	wantOrders(t, sixty, wanted)
	wantOrders(t, strings.TrimSuffix(sixty, "\n"), wanted)
	for _, more := range []string{"\n", "times 1", "times 1\n", "what", "x\n", "\n\n"} {
		wantNoOrders(t, sixty+more, 0, impl.ErrRange)
		wantNoOrders(t, "what\n"+sixty[8:]+more, 0, impl.ErrRange)
	}
	for size := impl.MaxOrderText - 1; size < impl.MaxOrderText+3; size++ {
		for _, first := range []string{"batch a\n", "batch a\nrooms 2\n", "what\n"} {
			long := first + strings.Repeat("x", size-len(first))
			line := int64(strings.Count(first, "\n"))
			if first == "what\n" {
				line = 0
			}
			code := int64(impl.ErrSyntax)
			if size > impl.MaxOrderText {
				line, code = 0, impl.ErrRange
			}
			wantNoOrders(t, long, line, code)
			wantNoOrders(t, long[:size-1]+"\n", line, code)
		}
	}
	wantNoOrders(t, "rooms 5\n"+strings.Repeat("y", impl.MaxOrderText-8), 0, impl.ErrRange)
	wantNoOrders(t, "batch a\n"+strings.Repeat("\n", 59), 1, impl.ErrSyntax)
	for _, text := range []string{strings.Repeat("\n", 61), strings.Repeat("\n", 1000000), strings.Repeat("a", 1000000), strings.Repeat("batch a\n", 100000), strings.Repeat(" ", 2001)} {
		wantNoOrders(t, text, 0, impl.ErrRange)
	}
}

// randomOrders mostly has lines that are orders.
func randomOrders(r *rand.Rand) string {
	names := []string{"a", "b", "c", "dd", "eee", "abcdefghijkl"}
	numbers := []string{"0", "1", "2", "3", "7", "8", "100", "9999", "50000", "100000"}
	odd := notLines()
	var lines []string
	for range r.IntN(20) {
		name, one, two := names[r.IntN(len(names))], numbers[r.IntN(len(numbers))], numbers[r.IntN(len(numbers))]
		lines = append(lines, [...]string{"batch " + name, "batch " + name, "pour " + one + " " + two, "pour " + one + " " + strconv.Itoa(r.IntN(1000)), "pour 3 " + two, "like " + name, "times " + strconv.Itoa(r.IntN(5)), "times " + one, "rooms " + strconv.Itoa(1+r.IntN(4)), "rooms " + one}[r.IntN(10)])
		if r.IntN(40) == 0 {
			lines[len(lines)-1] = odd[r.IntN(len(odd))]
		}
	}
	if r.IntN(2) == 0 {
		lines = append([]string{"batch a"}, lines...)
	}
	return strings.Join(lines, "\n") + []string{"", "\n", "\n", "\n\n"}[r.IntN(4)]
}

func TestP15OrdersAsTheOracleTells(t *testing.T) {
	r := newRandom(1502)
	seen := map[int64]int{}
	for n := range 20000 {
		text := randomOrders(r)
		if n%10 == 0 {
			text = text[:r.IntN(len(text)+1)]
		}
		w, line, code := impl.CompileOrders(text)
		wanted, at, wantedCode := oracleCompiled(text)
		if line != at || code != wantedCode || w.Rooms != wanted.Rooms || !slices.Equal(w.Batches, wanted.Batches) {
			t.Fatalf("CompileOrders(%q): got %v, %d, %d, want %v, %d, %d", text, w, line, code, wanted, at, wantedCode)
		}
		seen[code]++
		if code == impl.OK {
			wantTrue(t, "what is compiled is valid", impl.ValidWorks(w))
			wantOrders(t, impl.OrdersText(w), w)
		}
	}
	for _, code := range []int64{impl.OK, impl.ErrRange, impl.ErrState, impl.ErrLimit, impl.ErrNotFound, impl.ErrSyntax} {
		wantTrue(t, "each code comes often: "+impl.CodeName(code), seen[code] > 100)
	}
}

// Tasks have all drops, in order, and nothing else.
func TestP15TasksHaveAllDrops(t *testing.T) {
	r := newRandom(1503)
	for n := range 300 {
		w := randomWorks(r)
		switch n {
		case 0:
			w = fullWorks()
		case 1:
			w = emptyWorks()
		}
		tasks := tasksOf(t, w)
		wantTrue(t, "TasksOf", slices.Equal(tasks, oracleTasks(w)))
		var total impl.Vat
		vats := make([]impl.Vat, len(w.Batches))
		for _, task := range tasks {
			wantTrue(t, "a task has drops", task.Drops >= 1)
			total[task.Jar] += task.Drops
			vats[task.Batch][task.Jar] += task.Drops
		}
		found, code := impl.TotalOf(w)
		wantFound(t, "TotalOf", found, code, total)
		for i, b := range w.Batches {
			want(t, "the tasks of a batch", vats[i], b.Drops)
		}
	}
	want(t, "the tasks of full works", len(tasksOf(t, fullWorks())), 48)
	want(t, "the tasks of empty works", len(tasksOf(t, emptyWorks())), 0)
	total, code := impl.TotalOf(fullWorks())
	wantFound(t, "TotalOf full works", total, code, flatVat(6*impl.MaxPoured))
}
