package tests

import (
	"math/rand/v2"
	"slices"
	"strconv"
	"strings"
	"testing"

	"loop.example/g01213/impl"
)

// P16 needs deeds that are read from their texts, and scripts that tell what is on the floor.

func TestP16TextsOfDeeds(t *testing.T) {
	words := []string{impl.DdAsk: "ask", impl.DdDeliver: "deliver", impl.DdCopy: "copy", impl.DdDrop: "drop"}
	for kind := int64(impl.DdAsk); kind <= impl.DdDrop; kind++ {
		for a := range int64(1000) {
			d := impl.Deed{Kind: kind, A: a}
			text := words[kind] + " " + strconv.Itoa(int(a))
			want(t, "DeedText", impl.DeedText(d), text)
			read, code := impl.ReadDeed(text)
			wantFound(t, "ReadDeed "+text, read, code, d)
		}
	}
	for text, kind := range map[string]int64{"save": impl.DdSave, "crash": impl.DdCrash} {
		want(t, "DeedText", impl.DeedText(impl.Deed{Kind: kind}), text)
		read, code := impl.ReadDeed(text)
		wantFound(t, "ReadDeed "+text, read, code, impl.Deed{Kind: kind})
	}
}

// nearlyDeeds are texts of no deed.
func nearlyDeeds() []string {
	list := []string{"", " ", "\n", "save ", " save", "save 0", "save 1", "crash 0", "crash ", "saves", "sav", "Save", "SAVE", "save\n", "save\r", "crash\x00", "savecrash", "save crash", "0", "1 ask", "ask0", "do 0", "give 1", "\xff", "what", "vat 0", "agreed"}
	for _, word := range []string{"ask", "deliver", "copy", "drop"} {
		list = append(list, word, strings.ToUpper(word)+" 0", word+"s 0", word[1:]+" 0", " "+word+" 0", word+"  0", word+"\t0", word+" 0 0", word+" 0 ", word+" 0\n", word+" 0\r")
		for _, number := range []string{"", "-1", "-0", "+0", "+1", "00", "01", "007", "0000", "1000", "1001", "9999", "4294967296", "18446744073709551616", "9223372036854775807", "99999999999999999999", "1.0", "1e1", "0x1", "1_0", "a", "nil", "１", "1,", "--1"} {
			list = append(list, word+" "+number)
		}
	}
	return append(list, strings.Repeat("ask ", 1000), "ask "+strings.Repeat("0", 10000), "ask "+strings.Repeat("9", 10000), strings.Repeat("a", 10000))
}

func TestP16TextsOfNoDeed(t *testing.T) {
	for _, text := range append(nearlyDeeds(), strings.Repeat("1", 1000000), "ask "+strings.Repeat("1", 1000000), strings.Repeat(" ", 1000000)) {
		d, code := impl.ReadDeed(text)
		wantNone(t, "ReadDeed "+text[:min(len(text), 50)], d, code, impl.ErrSyntax)
	}
}

func wantAnswers(t *testing.T, w impl.Works, text, wanted string) {
	t.Helper()
	out, code := impl.RunScript(w, text)
	wantCode(t, "RunScript", code, impl.OK)
	if out != wanted {
		t.Errorf("RunScript(%.300q): got %q, want %q", text, out, wanted)
	}
}

// answersOf has so many answers, each followed by a newline.
func answersOf(list ...string) string { return strings.Join(list, "\n") + "\n" }

func TestP16ScriptsByHand(t *testing.T) {
	w := exampleWorks()
	const none = "0 0 0 0 0 0 0 0"
	wantAnswers(t, w, "vat 0\nvat 1\nvat 2\nagreed", answersOf(none, none, "what", "no"))
	wantAnswers(t, w, "ask 2\nvat 1\ndeliver 0\nvat 1\nvat 0\n", answersOf("ok", none, "ok", "10 0 0 0 0 0 0 0", none))
	wantAnswers(t, emptyWorks(), "agreed\nask 0\ndeliver 0\nvat 0\nvat 1\nsave\ncrash\nagreed\n", answersOf("yes", "error range", "error range", none, "what", "ok", "ok", "yes"))
	wantAnswers(t, w, "ask 4\nask 999\nask 1000\ndeliver 0\ncopy 0\ndrop 0\ndrop 999", answersOf("error range", "error range", "what", "error range", "error range", "error range", "error range"))
	wantAnswers(t, w, "ask 0\ndeliver 0\ndeliver 0\nask 0\ncrash\nask 0\ndeliver 0\ndeliver 0\nvat 0\nsave\ncrash\nask 0", answersOf("ok", "ok", "ok", "error state", "ok", "ok", "ok", "ok", "5 0 0 0 0 0 0 0", "ok", "ok", "error state"))
	full := strings.Repeat("ask 1\n", impl.MaxWire)
	wantAnswers(t, w, full+"ask 1\nask 4\ncopy 0\ndeliver 0\ncopy 9\ncopy 8\ncopy 10\ndrop 0\ncopy 0\nvat 0", strings.Repeat("ok\n", impl.MaxWire)+answersOf("error limit", "error range", "error limit", "ok", "ok", "error limit", "error range", "ok", "ok", "0 0 0 2 0 0 0 0"))
	wantAnswers(t, fullWorks(), "ask 47\ndeliver 0\nvat 5\nvat 6\nagreed\ndrop 0", answersOf("ok", "ok", "0 0 0 0 0 0 0 100000", "what", "no", "ok"))
	wantAnswers(t, fullWorks(), scriptOf(finishDeeds(t, worksOf(1, impl.Batch{Name: "a", Drops: flatVat(1)}), nil))+"vat 0\nagreed", strings.Repeat("ok\n", 25)+answersOf("100000 100000 100000 100000 100000 100000 100000 100000", "no"))
}

// scriptOf has the texts of deeds.
func scriptOf(deeds []impl.Deed) string {
	text := ""
	for _, d := range deeds {
		text += impl.DeedText(d) + "\n"
	}
	return text
}

// Lines that are nearly such are answered by "what", and do nothing.
func TestP16LinesThatAreNone(t *testing.T) {
	lines := []string{"", " ", "vat", "vat ", "vat a", "vat -1", "vat +0", "vat -0", "vat 00", "vat 01", "vat 2", "vat 6", "vat 999", "vat  0", " vat 0", "vat 0 ", "vat 0 1", "vat\t0", "Vat 0", "vats 0", "vat0", "vat 0\r", "vat 4294967296", "vat 18446744073709551616", "vat sky", "vat １",
		"agreed ", " agreed", "Agreed", "AGREED", "agree", "agreed 0", "agreed\r", "what", "ok", "yes", "no", "error", "rooms 2", "batch a", "pour 0 1", "like sky", "times 2", "\xff", "\x00", "help", "quit"}
	lines = append(lines, nearlyDeeds()...)
	for _, line := range lines {
		if strings.HasSuffix(line, "\n") || line == "vat 0" || line == "agreed" || len(line) > 5000 {
			continue
		}
		wantAnswers(t, exampleWorks(), "ask 0\n"+line+"\ndeliver 0\nask 0\ndeliver 1", answersOf("ok", "what", "ok", "ok", "ok"))
		if line != "" {
			wantAnswers(t, exampleWorks(), line, "what\n")
		}
	}
}

func TestP16LinesOfScripts(t *testing.T) {
	w := exampleWorks()
	for text, answers := range map[string]string{
		"": "", "\n": "what\n", "\n\n": "what\nwhat\n", "agreed": "no\n", "agreed\n": "no\n", "agreed\n\n": "no\nwhat\n", "\nagreed": "what\nno\n", "save\n\ncrash": "ok\nwhat\nok\n", "save\r\ncrash": "what\nok\n", "save;crash": "what\n", "save crash\n": "what\n",
	} {
		wantAnswers(t, w, text, answers)
	}
}

func TestP16ScriptsThatAreTooLong(t *testing.T) {
	w := exampleWorks()
	wantNoAnswers := func(text string) {
		t.Helper()
		out, code := impl.RunScript(w, text)
		wantNone(t, "RunScript of a text that is too long", out, code, impl.ErrRange)
	}
	most := strings.Repeat("save\n", impl.MaxScriptLines)
	wantAnswers(t, w, most, strings.Repeat("ok\n", impl.MaxScriptLines))
	wantAnswers(t, w, strings.TrimSuffix(most, "\n"), strings.Repeat("ok\n", impl.MaxScriptLines))
	wantAnswers(t, w, strings.Repeat("\n", impl.MaxScriptLines), strings.Repeat("what\n", impl.MaxScriptLines))
	for _, more := range []string{"\n", "save", "save\n", "x"} {
		wantNoAnswers(most + more)
	}
	long := strings.Repeat("x", impl.MaxScriptText)
	wantAnswers(t, w, long, "what\n")
	wantAnswers(t, w, long[1:]+"\n", "what\n")
	wantAnswers(t, w, "agreed\n"+long[7:], "no\nwhat\n")
	wantNoAnswers(long + "x")
	wantNoAnswers(long + "\n")
	wantNoAnswers("agreed\n" + long)
	for _, text := range []string{strings.Repeat("\n", impl.MaxScriptLines+1), strings.Repeat("\n", 1000000), strings.Repeat("save\n", 200000), strings.Repeat(" ", 1000000)} {
		wantNoAnswers(text)
	}
}

// randomScript mostly has lines that are answered by more than "what".
func randomScript(r *rand.Rand) string {
	odd := nearlyDeeds()
	var lines []string
	for range r.IntN(impl.MaxScriptLines) {
		number := strconv.Itoa(r.IntN(4))
		lines = append(lines, [...]string{"ask " + number, "ask " + number, "deliver " + number, "deliver 0", "copy " + number, "drop " + number, "save", "crash", "vat " + number, "agreed"}[r.IntN(10)])
		if r.IntN(30) == 0 {
			if line := odd[r.IntN(len(odd))]; len(line) < 100 {
				lines = append(lines, line)
			}
		}
	}
	return strings.Join(lines, "\n") + []string{"", "\n"}[r.IntN(2)]
}

func TestP16ScriptsAsTheOracleTells(t *testing.T) {
	r := newRandom(1601)
	for range 2000 {
		w, text := randomWorks(r), randomScript(r)
		out, code := impl.RunScript(w, text)
		if len(oracleLines(text)) > impl.MaxScriptLines {
			wantNone(t, "RunScript", out, code, impl.ErrRange)
			continue
		}
		wantCode(t, "RunScript", code, impl.OK)
		if wanted := oracleAnswers(w, text); out != wanted {
			t.Fatalf("RunScript(%q): got %q, want %q", text, out, wanted)
		}
	}
}

// A script does what deeds do.
func TestP16ScriptsDoWhatDeedsDo(t *testing.T) {
	r := newRandom(1602)
	for range 300 {
		w := randomWorks(r)
		deeds := randomDeeds(r, len(oracleTasks(w)), 100)
		text := scriptOf(deeds) + "agreed\n"
		for batch := range w.Batches {
			text += "vat " + strconv.Itoa(batch) + "\n"
		}
		out, code := impl.RunScript(w, text)
		wantCode(t, "RunScript", code, impl.OK)
		answers := strings.Split(strings.TrimSuffix(out, "\n"), "\n")
		want(t, "the number of answers", len(answers), len(deeds)+1+len(w.Batches))
		refused := slices.IndexFunc(answers[:len(deeds)], func(answer string) bool { return answer != "ok" })
		at, bad, code := impl.RefusedDeed(w, deeds)
		if refused < 0 {
			wantNone(t, "RefusedDeed", [2]int64{at, bad}, code, impl.ErrNotFound)
		} else {
			wantFound(t, "RefusedDeed", at, code, int64(refused))
			want(t, "the answer to the first deed that is left out", answers[refused], "error "+impl.CodeName(bad))
		}
		agreed, code := impl.IsAgreed(w, deeds)
		wantFound(t, "IsAgreed", agreed, code, answers[len(deeds)] == "yes")
		for batch, answer := range answers[len(deeds)+1:] {
			vat, code := impl.VatAfter(w, deeds, int64(batch))
			var numbers impl.Vat
			for jar, number := range strings.Split(answer, " ") {
				numbers[jar], _ = strconv.ParseInt(number, 10, 64)
			}
			wantFound(t, "VatAfter", vat, code, numbers)
		}
	}
}
