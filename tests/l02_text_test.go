package tests

import (
	"strings"
	"testing"

	"loop.example/g01213/impl"
)

// P4 and P5 need layers that are read from their texts.

func TestP4LayersAreReadFromTheirTexts(t *testing.T) {
	x := flatLayer(0.5, 1, 2)
	x.K[15], x.S[0] = minus0, tiniest
	want := strings.Repeat("3f000000 ", 15) + "80000000\n00000001" + strings.Repeat(" 3f800000", 15) + "\n40000000\n"
	if got := impl.LayerText(x); got != want {
		t.Errorf("LayerText: got %q, want %q", got, want)
	}
	r := newRandom(61)
	list := []impl.Layer{x, {}, flatLayer(minus0, minus0, minus0), flatLayer(largest, tiniest, largest), stuckLayer, strongLayer}
	for range 300 {
		list = append(list, randomLayer(r, 10, 10, 10))
	}
	for _, x := range list {
		text := impl.LayerText(x)
		if want := impl.CurveText(x.K) + "\n" + impl.CurveText(x.S) + "\n" + impl.NumberText(x.Thick) + "\n"; text != want {
			t.Errorf("LayerText: got %q, want %q", text, want)
		}
		y, code := impl.ReadLayer(text)
		wantCode(t, "ReadLayer of LayerText", code, impl.OK)
		wantTrue(t, "ReadLayer of LayerText", sameCurve(x.K, y.K) && sameCurve(x.S, y.S) && same(x.Thick, y.Thick))
	}
}

func TestP4TextsOfNoLayer(t *testing.T) {
	text := impl.LayerText(flatLayer(0.5, 1, 2))
	zero := impl.LayerText(impl.Layer{})
	k, s, thick := text[:143], text[144:287], text[288:296]
	join := func(lines ...string) string { return strings.Join(lines, "\n") }
	texts := []string{
		"", "\n", "\n\n\n", "\n\n\n\n", " ", text + "\n", "\n" + text, text + " ", " " + text, text[:len(text)-1], text[1:], text + text, text + thick, text + thick + "\n",
		join(k, s, thick), join(k, s, thick, " "), join(k, s, thick, "x"), join(k, s, ""), join(k, thick, ""), join(thick, k, s, ""), join(k, s, k, ""), join(k, s, thick, thick, ""),
		join(k, s, thick+" ", ""), join(k, s+" ", thick, ""), join(k+" ", s, thick, ""), join(k, s, "", thick, ""), join("", s, thick, ""), join(k, "", thick, ""), join(k, s, "", ""),
		join(k[9:], s, thick, ""), join(k+" "+thick, s, thick, ""), strings.ToUpper(text), strings.ReplaceAll(text, "\n", "\r\n"), strings.ReplaceAll(text, "\n", " "),
		strings.Repeat("\n", 1000000), strings.Repeat("0", 1000000), zero[:len(zero)-2] + "\n", zero[1:], "x" + zero[1:], zero[:145] + "x" + zero[146:], zero[:289] + "x" + zero[290:],
		"\n\n\n" + zero, strings.Replace(zero, "\n", "\n\n", 1),
	}
	for _, bad := range texts {
		wantNoLayer(t, bad)
	}
	// Numbers that no valid layer has: less than 0, infinite, NaN and other texts of NaN.
	for _, number := range []string{"bf800000", "80000001", "ff800000", "7f800000", "7fc00000", "7fc00001", "ffc00000", "3F800000", "3f80000g", "+f800000"} {
		for at := 0; at < 288; at += 9 {
			wantNoLayer(t, text[:at]+number+text[at+8:])
		}
		wantNoLayer(t, text[:288]+number+"\n")
	}
	// Any other byte in the place of a blank or of an end of a line.
	for _, at := range []int{8, 134, 143, 152, 287, 296} {
		for b := range 256 {
			if byte(b) != text[at] {
				wantNoLayer(t, text[:at]+string([]byte{byte(b)})+text[at+1:])
			}
		}
	}
}

func wantNoLayer(t *testing.T, text string) {
	t.Helper()
	x, code := impl.ReadLayer(text)
	if code != impl.ErrSyntax || (x != impl.Layer{}) {
		t.Errorf("ReadLayer(%.320q): got the thickness %v and the code %d", text, x.Thick, code)
	}
}
