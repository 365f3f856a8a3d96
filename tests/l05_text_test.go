package tests

import (
	"strings"
	"testing"

	"loop.example/g01213/impl"
)

// P11 and P12 need presses that are read from their texts.

func TestP11PressesAreReadFromTheirTexts(t *testing.T) {
	p := flatPress(1, 0.25, 0.5, 0.25, 0, 1)
	p.Paper[15], p.Inks[0][0], p.Inks[3][1] = minus0, tiniest, 0
	lines := []string{
		strings.Repeat("3f800000 ", 15) + "80000000",
		"00000001" + strings.Repeat(" 3f000000", 15),
		"3e800000" + strings.Repeat(" 3e800000", 15),
		"00000000" + strings.Repeat(" 00000000", 15),
		"3f800000 00000000" + strings.Repeat(" 3f800000", 14),
		"3e800000", "",
	}
	want(t, "PressText", impl.PressText(p), strings.Join(lines, "\n"))
	r := newRandom(1111)
	list := []impl.Press{p, {}, colourPress(), flatPress(minus0, minus0, minus0, minus0, minus0, minus0), flatPress(1, 1, 1, 1, 1, 1)}
	for range 200 {
		list = append(list, randomPress(r), edgePress(r))
	}
	for _, p := range list {
		text := impl.PressText(p)
		wanted := impl.CurveText(p.Paper) + "\n"
		for _, ink := range p.Inks {
			wanted += impl.CurveText(ink) + "\n"
		}
		want(t, "PressText", text, wanted+impl.NumberText(p.Gain)+"\n")
		q, code := impl.ReadPress(text)
		wantCode(t, "ReadPress of PressText", code, impl.OK)
		wantTrue(t, "ReadPress of PressText", samePress(p, q))
	}
}

func wantNoPressText(t *testing.T, text string) {
	t.Helper()
	p, code := impl.ReadPress(text)
	if code != impl.ErrSyntax || p != (impl.Press{}) {
		t.Errorf("ReadPress(%.800q): got the gain %v and the code %d", text, p.Gain, code)
	}
}

func TestP11TextsOfNoPress(t *testing.T) {
	text, zero := impl.PressText(flatPress(0.5, 0.25, 1, 0.5, 0.25, 0)), impl.PressText(impl.Press{})
	lines := strings.Split(text, "\n")
	for i := range lines {
		wantNoPressText(t, strings.Join(append(append([]string{}, lines[:i]...), lines[i+1:]...), "\n"))
		for _, line := range []string{"", " ", "x", "3f000000", lines[0], lines[0] + " ", " " + lines[0], lines[0] + " 3f000000", lines[0][9:], lines[0] + "\r", lines[0] + "\n"} {
			other := append([]string{}, lines...)
			if other[i] == line {
				continue
			}
			other[i] = line
			changed := strings.Join(other, "\n")
			p, code := impl.ReadPress(changed)
			if code == impl.OK {
				want(t, "the text of what has been read", impl.PressText(p), changed)
				wantTrue(t, "only inks and the paper are curves, and only the gain is a number", line == lines[0] && i < 5 || line == "3f000000" && i == 5)
			} else {
				wantNoPressText(t, changed)
			}
			other[i] = lines[i] + "\n" + line
			wantNoPressText(t, strings.Join(other, "\n"))
		}
	}
	for _, bad := range []string{
		"", "\n", " ", strings.Repeat("\n", 5), strings.Repeat("\n", 6), strings.Repeat("\n", 7), text + "\n", "\n" + text, text + " ", " " + text, text[:len(text)-1], text[1:], text + text, text + "3f000000\n", lines[0] + "\n" + text,
		strings.ToUpper(text), strings.ReplaceAll(text, "\n", "\r\n"), strings.ReplaceAll(text, "\n", " "), strings.ReplaceAll(text, " ", "  "), strings.ReplaceAll(text, " ", "\t"),
		strings.Repeat("\n", 1000000), strings.Repeat("0", 1000000), strings.Repeat(" ", 1000000), strings.Repeat(text, 1000), zero[1:], "x" + zero[1:], "\n\n\n\n\n\n" + zero, impl.LayerText(flatLayer(0.5, 0.5, 0.5)),
	} {
		wantNoPressText(t, bad)
	}
}

// Numbers that no valid press has: negative ones, those that are more than 1, infinite ones, NaN, and no numbers.
func TestP11TextsWithOtherNumbers(t *testing.T) {
	text := impl.PressText(flatPress(0.5, 0.25, 1, 0.5, 0.25, 0))
	const gainAt = 5 * 144
	for _, number := range []string{"bf800000", "80000001", "ff800000", "7f800000", "3f800001", "40000000", "7fc00000", "7fc00001", "ffc00000", "3F800000", "3f80000g", "+f800000", "3f80000", "3f8000000", "0x3f8000", ""} {
		for at := 0; at <= gainAt; at += 9 {
			wantNoPressText(t, text[:at]+number+text[at+8:])
		}
	}
	for _, number := range []string{"3f800000", "00000000", "80000000", "00000001", "3f7fffff"} {
		for at := 0; at <= gainAt; at += 9 {
			other := text[:at] + number + text[at+8:]
			p, code := impl.ReadPress(other)
			wantCode(t, "ReadPress with another share", code, impl.OK)
			want(t, "PressText with another share", impl.PressText(p), other)
		}
	}
	// Any other byte in the place of a blank or of an end of a line.
	for _, at := range []int{8, 134, 143, 287, 719, 728} {
		for b := range 256 {
			if byte(b) != text[at] {
				wantNoPressText(t, text[:at]+string([]byte{byte(b)})+text[at+1:])
			}
		}
	}
}
