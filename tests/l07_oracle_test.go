package tests

import (
	"maps"
	"regexp"
	"slices"
	"strconv"
	"strings"

	"loop.example/g01213/impl"
)

// The oracle of chapter 7 reads orders by patterns, and tells vats and books by the set of tasks that have been poured.

var orderPattern = regexp.MustCompile(`^(rooms|batch|pour|like|times)(?: ([a-z]{1,12}))?(?: (0|[1-9][0-9]{0,5}))?(?: (0|[1-9][0-9]{0,5}))?$`)

// oracleLines goes through the bytes of a text.
func oracleLines(text string) []string {
	var lines []string
	line := ""
	for i := range len(text) {
		if text[i] != '\n' {
			line += text[i : i+1]
			continue
		}
		lines, line = append(lines, line), ""
	}
	if text != "" && text[len(text)-1] != '\n' {
		lines = append(lines, line)
	}
	return lines
}

func oracleCompiled(text string) (impl.Works, int64, int64) {
	lines := oracleLines(text)
	if len(text) > 2000 || len(lines) > 60 {
		return impl.Works{}, 0, impl.ErrRange
	}
	w := impl.Works{Rooms: 1}
	for at, line := range lines {
		if code := oracleOrder(&w, line); code != impl.OK {
			return impl.Works{}, int64(at), code
		}
	}
	if len(w.Batches) == 0 {
		return impl.Works{}, int64(len(lines)), impl.ErrState
	}
	return w, 0, impl.OK
}

// oracleShape tells which words are there behind the first one: a name, and so many numbers.
func oracleShape(words []string) string {
	shape := words[1]
	for _, word := range words[2:] {
		if word == "" {
			shape += "-"
		} else {
			shape += "+"
		}
	}
	return shape
}

func oracleOrder(w *impl.Works, line string) int64 {
	words := orderPattern.FindStringSubmatch(line)
	if words == nil {
		return impl.ErrSyntax
	}
	first, _ := strconv.Atoi(words[3])
	second, _ := strconv.Atoi(words[4])
	switch oracleShape(words) {
	case "rooms-+-":
		if first == 0 || first > 4 {
			return impl.ErrRange
		}
		w.Rooms = int64(first)
		return impl.OK
	case "batch+--":
		return oracleBatch(w, words[2])
	case "pour-++", "like+--", "times-+-":
		if len(w.Batches) == 0 {
			return impl.ErrState
		}
		return oracleLastBatch(w, words[1], words[2], first, second)
	}
	return impl.ErrSyntax
}

func oracleBatch(w *impl.Works, name string) int64 {
	for _, b := range w.Batches {
		if b.Name == name {
			return impl.ErrState
		}
	}
	if len(w.Batches) >= 6 {
		return impl.ErrLimit
	}
	w.Batches = append(w.Batches, impl.Batch{Name: name})
	return impl.OK
}

// oracleLastBatch changes the last batch.
func oracleLastBatch(w *impl.Works, word, name string, first, second int) int64 {
	last := &w.Batches[len(w.Batches)-1]
	next, found := last.Drops, word != "like"
	if word == "pour" && first > 7 {
		return impl.ErrRange
	}
	for jar := range next {
		switch word {
		case "pour":
			if jar == first {
				next[jar] += int64(second)
			}
		case "times":
			next[jar] *= int64(first)
		case "like":
			for _, b := range w.Batches {
				if b.Name == name {
					found = true
					next[jar] = last.Drops[jar] + b.Drops[jar]
				}
			}
		}
	}
	if !found {
		return impl.ErrNotFound
	}
	for _, drops := range next {
		if drops > 100000 {
			return impl.ErrLimit
		}
	}
	last.Drops = next
	return impl.OK
}

func oracleTasks(w impl.Works) []impl.Task {
	var list []impl.Task
	for n := range 8 * len(w.Batches) {
		if drops := w.Batches[n/8].Drops[n%8]; drops != 0 {
			list = append(list, impl.Task{Batch: int64(n / 8), Jar: int64(n % 8), Drops: drops})
		}
	}
	return list
}

type taskSet map[int64]bool

// oracleFloor knows nothing of vats and books.
type oracleFloor struct {
	works                impl.Works
	tasks                []impl.Task
	poured, known, saved taskSet
	wire                 []impl.Note
}

func newOracleFloor(w impl.Works) *oracleFloor {
	return &oracleFloor{works: w, tasks: oracleTasks(w), poured: taskSet{}, known: taskSet{}, saved: taskSet{}}
}

func (f *oracleFloor) do(d impl.Deed) int64 {
	switch d.Kind {
	case impl.DdAsk:
		return f.ask(d.A)
	case impl.DdSave:
		f.saved = maps.Clone(f.known)
	case impl.DdCrash:
		f.known = maps.Clone(f.saved)
	default:
		return f.useNote(d.Kind, d.A)
	}
	return impl.OK
}

func (f *oracleFloor) ask(task int64) int64 {
	if task >= int64(len(f.tasks)) {
		return impl.ErrRange
	}
	if f.known[task] {
		return impl.ErrState
	}
	if len(f.wire) == 10 {
		return impl.ErrLimit
	}
	f.wire = append(f.wire, impl.Note{Task: task})
	return impl.OK
}

func (f *oracleFloor) useNote(kind, at int64) int64 {
	if at >= int64(len(f.wire)) {
		return impl.ErrRange
	}
	n := f.wire[at]
	if kind == impl.DdCopy && !n.Back && len(f.wire) == 10 {
		return impl.ErrLimit
	}
	if kind != impl.DdCopy {
		f.wire = slices.Concat(f.wire[:at], f.wire[at+1:])
	}
	if kind == impl.DdDrop {
		return impl.OK
	}
	if n.Back {
		f.known[n.Task] = true
	} else {
		f.poured[n.Task] = true
		f.wire = append(f.wire, impl.Note{Back: true, Task: n.Task})
	}
	return impl.OK
}

// floor fills the vats and the books.
func (f *oracleFloor) floor() impl.Floor {
	g := impl.Floor{Vats: make([]impl.Vat, len(f.works.Batches)), Wire: f.wire}
	for room := range f.works.Rooms {
		var book []bool
		for task := range int64(len(f.tasks)) {
			book = append(book, f.poured[task] && task%f.works.Rooms == room)
		}
		g.Books = append(g.Books, book)
	}
	for n, task := range f.tasks {
		if f.poured[int64(n)] {
			g.Vats[task.Batch][task.Jar] = task.Drops
		}
		g.Known = append(g.Known, f.known[int64(n)])
		g.Saved = append(g.Saved, f.saved[int64(n)])
	}
	return g
}

// oracleDone has the floor behind deeds, and their codes.
func oracleDone(w impl.Works, deeds []impl.Deed) (*oracleFloor, []int64) {
	f := newOracleFloor(w)
	var codes []int64
	for _, d := range deeds {
		codes = append(codes, f.do(d))
	}
	return f, codes
}

func (f *oracleFloor) isAgreed() bool { return len(f.known) == len(f.tasks) }

func (f *oracleFloor) plan() []impl.Deed {
	list := make([]impl.Deed, len(f.wire))
	for i := range list {
		list[i].Kind = impl.DdDrop
	}
	for task := range int64(len(f.tasks)) {
		if !f.known[task] {
			list = append(list, impl.Deed{Kind: 1, A: task}, impl.Deed{Kind: 2}, impl.Deed{Kind: 2})
		}
	}
	return append(list, impl.Deed{Kind: 5})
}

var (
	deedPattern = regexp.MustCompile(`^(?:(ask|deliver|copy|drop) (0|[1-9][0-9]{0,2})|save|crash)$`)
	vatPattern  = regexp.MustCompile(`^vat ([0-5])$`)
)

// oracleDeed has no kind if the text is that of no deed.
func oracleDeed(text string) impl.Deed {
	words := deedPattern.FindStringSubmatch(text)
	if words == nil {
		return impl.Deed{}
	}
	a, _ := strconv.Atoi(words[2])
	kinds := map[string]int64{"ask": 1, "deliver": 2, "copy": 3, "drop": 4, "save": 5, "crash": 6}
	return impl.Deed{Kind: kinds[strings.Split(text, " ")[0]], A: int64(a)}
}

func oracleAnswers(w impl.Works, text string) string {
	f, all := newOracleFloor(w), ""
	for _, line := range oracleLines(text) {
		all += f.answer(line) + "\n"
	}
	return all
}

func (f *oracleFloor) answer(line string) string {
	if d := oracleDeed(line); d.Kind != 0 {
		return map[int64]string{0: "ok", 2: "error range", 3: "error limit", 4: "error state"}[f.do(d)]
	}
	if line == "agreed" {
		return map[bool]string{true: "yes", false: "no"}[f.isAgreed()]
	}
	words := vatPattern.FindStringSubmatch(line)
	if words == nil || int(words[1][0]-'0') >= len(f.works.Batches) {
		return "what"
	}
	answer := ""
	for _, drops := range f.floor().Vats[words[1][0]-'0'] {
		answer += " " + strconv.Itoa(int(drops))
	}
	return answer[1:]
}
