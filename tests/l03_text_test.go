package tests

import (
	"strings"
	"testing"

	"loop.example/g01213/impl"
)

// P6 needs texts that are none to be left out.

func wantNoDropsText(t *testing.T, text string) {
	t.Helper()
	d, code := impl.ReadDrops(text)
	if code != impl.ErrSyntax || d != (impl.Drops{}) {
		t.Errorf("ReadDrops(%.80q): got %v and the code %d", text, d, code)
	}
}

func TestP6TextsOfNoDrops(t *testing.T) {
	texts := []string{
		"", "1", "0", "-", "-----", "------", "1-2-3-4-5", "1-2-3-4-5-", "-1-2-3-4-5", "1-2-3-4-5-6-", "-1-2-3-4-5-6", "1-2-3-4-5-6-7", "1--2-3-4-5-6", "1--3-4-5-6", "1 2 3 4 5 6", "1,2,3,4,5,6", "1-2-3-4-5-6\n", "\n1-2-3-4-5-6",
		"1-2-3-4-5-6\x00", "1 -2-3-4-5-6", "1- 2-3-4-5-6", "1-2-3-4-5-6 ", " 1-2-3-4-5-6", "1\u20132-3-4-5-6", "0-0-0-0-0", "0-0-0-0-0-0-0", "pigment",
		strings.Repeat("-", 1000000), strings.Repeat("1", 1000000), strings.Repeat("0", 1000000) + "-0-0-0-0-0", strings.Repeat("1-", 500000),
	}
	for _, text := range texts {
		wantNoDropsText(t, text)
	}
	numbers := []string{"", "1001", "1010", "2000", "10000", "32767", "32768", "65535", "65536", "65537", "4294967297", "18446744073709551617", "00", "01", "007", "0000", "+1", "+0", "-0", "-1", "1.0", "1e2", "0x1", "0b1", "1_0", "a", "\uff11", " 1", "1 ", "\t1", "NaN", "nil", "(1)"}
	for i := range impl.MaxPigments {
		for _, number := range numbers {
			words := strings.Split("1-2-3-4-5-6", "-")
			words[i] = number
			wantNoDropsText(t, strings.Join(words, "-"))
		}
	}
}

func wantNoShelfText(t *testing.T, text string) {
	t.Helper()
	x, code := impl.ReadShelf(text)
	if code != impl.ErrSyntax || len(x.Pigments) != 0 || x.Tins != [6]int32{} {
		t.Errorf("ReadShelf(%.640q): got %d pigments and the code %d", text, len(x.Pigments), code)
	}
}

var (
	flatText  = strings.TrimSuffix(strings.Repeat("3f800000 ", 16), " ")
	plainText = "pigment red 20 300\n" + flatText + "\n" + flatText + "\n"
)

func TestP6TextsOfNoShelf(t *testing.T) {
	x, code := impl.ReadShelf(plainText)
	wanted := shelfOf(flatPigment("red", 1, 1, 20))
	wanted.Tins[0] = 300
	wantShelf(t, "ReadShelf", x, code, wanted)
	lines := strings.Split(plainText, "\n")
	for _, text := range []string{
		"", "\n", "\n\n\n", "\n\n\n\n", " ", "pigment", "pigment\n", "pigment red 20 300", "pigment red 20 300\n", plainText[:len(plainText)-1], plainText + "\n", "\n" + plainText, plainText + " ", " " + plainText, plainText[1:],
		lines[0] + "\n" + lines[1] + "\n", lines[1] + "\n" + lines[2] + "\n", lines[1] + "\n" + lines[0] + "\n" + lines[2] + "\n", lines[1] + "\n" + lines[2] + "\n" + lines[0] + "\n",
		plainText + plainText, plainText + lines[0] + "\n", plainText + lines[0] + "\n" + lines[1] + "\n", plainText + lines[1] + "\n", plainText + "\n\n\n", plainText + "\n" + plainText, strings.Replace(plainText, "\n", "\n\n", 1),
		strings.ToUpper(plainText), strings.ReplaceAll(plainText, "\n", "\r\n"), strings.ReplaceAll(plainText, " ", "  "), strings.ReplaceAll(plainText, " ", "\t"), strings.ReplaceAll(plainText, "\n", " "),
		strings.Repeat("\n", 1000000), strings.Repeat(" ", 1000000), strings.Repeat("0", 1000000), "pigment " + strings.Repeat("a", 900000), strings.Repeat("pigment ", 100000), strings.Repeat(plainText, 3000),
	} {
		wantNoShelfText(t, text)
	}
	for _, line := range []string{
		"", "pigment", "pigment red", "pigment red 20", "pigment red 20 300 ", "pigment red 20 300 1", " pigment red 20 300", "pigment  red 20 300", "pigment red  20 300", "pigment red 20  300", "red 20 300", "Pigment red 20 300", "pigments red 20 300", "ink red 20 300", "pigment\tred\t20\t300",
		"pigment Red 20 300", "pigment  20 300", "pigment abcdefghijklm 20 300", "pigment r3d 20 300", "pigment re-d 20 300", "pigment 20 red 300", "pigment red red 300", "pigment red 20 red",
		"pigment red 020 300", "pigment red +20 300", "pigment red -20 300", "pigment red -0 300", "pigment red 1000001 300", "pigment red 2e1 300", "pigment red 0x14 300", "pigment red 2_0 300", "pigment red 20.0 300", "pigment red 18446744073709551636 300", "pigment red 9223372036854775807 300", "pigment red 4294967316 300",
		"pigment red 20 0300", "pigment red 20 +300", "pigment red 20 -300", "pigment red 20 -0", "pigment red 20 1000000001", "pigment red 20 3e2", "pigment red 20 2147483647", "pigment red 20 2147483648", "pigment red 20 4294967596", "pigment red 20 18446744073709551916", "pigment red 20 300\r",
	} {
		wantNoShelfText(t, strings.Replace(plainText, "pigment red 20 300", line, 1))
	}
}

func TestP6TextsWithOtherNumbers(t *testing.T) {
	for _, number := range []string{"bf800000", "80000001", "ff800000", "7f800000", "7fc00000", "7fc00001", "3F800000", "3f80000g", "+f800000", "3f80000", "3f8000000", ""} {
		for i := range 32 {
			at := len("pigment red 20 300\n") + 9*i
			wantNoShelfText(t, plainText[:at]+number+plainText[at+8:])
		}
	}
	second := strings.Replace(plainText, "red", "blue", 1)
	x, code := impl.ReadShelf(plainText + second)
	wantCode(t, "ReadShelf of two", code, impl.OK)
	want(t, "ReadShelf of two", len(x.Pigments), 2)
	for _, bad := range []string{"blue 1000001 300", "blue 20 1000000001", "red 20 300", "blue 20", "Blue 20 300"} {
		wantNoShelfText(t, plainText+strings.Replace(second, "blue 20 300", bad, 1))
	}
}

func TestP6TextsOfManyPigments(t *testing.T) {
	text := impl.ShelfText(fullShelf())
	for _, more := range []string{plainText, "\n", "x", "\n\n\n", "pigment"} {
		wantNoShelfText(t, text+more)
		wantNoShelfText(t, more+text)
	}
	wantNoShelfText(t, text[:len(text)-1])
}

// A text with another byte is none, or it is the text of another shelf.
func TestP6TextsWithAnotherByte(t *testing.T) {
	r := newRandom(127)
	text := impl.ShelfText(twoShelf())
	for range 5000 {
		at := r.IntN(len(text))
		bytes := []byte(text)
		bytes[at] = " \n-+0189abfgxz"[r.IntN(14)]
		if r.IntN(4) == 0 {
			bytes[at] = byte(r.IntN(256))
		}
		other := string(bytes)
		x, code := impl.ReadShelf(other)
		if code != impl.OK {
			wantNoShelf(t, "ReadShelf", x, code, impl.ErrSyntax)
			continue
		}
		wantTrue(t, "what has been read is valid", impl.ValidShelf(x))
		want(t, "the text of what has been read", impl.ShelfText(x), other)
	}
}
