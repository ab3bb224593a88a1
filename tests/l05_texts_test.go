package tests

import (
	"fmt"
	"testing"

	"loop.example/g01301/impl"
)

func TestStripTexts(t *testing.T) {
	for _, c := range []struct {
		text string
		s    impl.Strip
	}{
		{"6 2 4", impl.Strip{First: 6, Each: 2, Bands: 4}},
		{"0 1 1", impl.Strip{First: 0, Each: 1, Bands: 1}},
		{"36 9 1", impl.Strip{First: 36, Each: 9, Bands: 1}},
		{"17 1 20", impl.Strip{First: 17, Each: 1, Bands: 20}},
		{"0 9 5", impl.Strip{First: 0, Each: 9, Bands: 5}},
		{"10 2 10", impl.Strip{First: 10, Each: 2, Bands: 10}},
	} {
		same(t, "StripText", impl.StripText(c.s), c.text)
		s, code := impl.ReadStrip(c.text)
		wantStrip(t, c.text, s, code, c.s, impl.OK)
	}
	for _, want := range allStrips() {
		text := fmt.Sprintf("%d %d %d", want.First, want.Each, want.Bands)
		same(t, "StripText", impl.StripText(want), text)
		s, code := impl.ReadStrip(text)
		wantStrip(t, text, s, code, want, impl.OK)
	}
}

// TestStripTextsOfNumbers writes three numbers: just those of valid strips are read.
func TestStripTextsOfNumbers(t *testing.T) {
	for first := int64(-2); first <= 40; first++ {
		for each := int64(-2); each <= 12; each++ {
			for bands := int64(-2); bands <= 24; bands++ {
				want, wantCode := impl.Strip{First: int8(first), Each: int8(each), Bands: int8(bands)}, int64(impl.OK)
				if !isStrip(want) {
					want, wantCode = impl.Strip{}, impl.ErrSyntax
				}
				text := fmt.Sprintf("%d %d %d", first, each, bands)
				s, code := impl.ReadStrip(text)
				wantStrip(t, text, s, code, want, wantCode)
			}
		}
	}
}

func checkNoStrip(t *testing.T, text string) {
	t.Helper()
	s, code := impl.ReadStrip(text)
	wantStrip(t, text, s, code, impl.Strip{}, impl.ErrSyntax)
}

func TestStripTextsNearlyRight(t *testing.T) {
	for _, text := range []string{
		"", " ", "  ", "6", "6 ", "6 2", "6 2 ", " 6 2 4", "6 2 4 ", "6  2 4", "6 2  4", "6 24", "62 4", "624", "6 2 4 1", "6 2 4\n", "\n6 2 4",
		"6\t2 4", "6 2\t4", "6\n2 4", "6\u00a02 4", "6,2,4", "6, 2, 4", "6:2 4", "6/2/4", "6 2 4\r", "6 2 4\r\n", "6 2 4\x00", "\x006 2 4", "6\x002 4",
		"06 2 4", "6 02 4", "6 2 04", "006 2 4", "6 2 004", "00 1 1", "0 01 1", "+6 2 4", "6 +2 4", "6 2 +4", "-6 2 4", "6 -2 4", "6 2 -4", "-0 1 1",
		"+0 1 1", "- 6 2 4", "6 2 4.", "6.0 2 4", "6 2 4.0", "6 2 4e0", "0x6 2 4", "6 0x2 4", "6 2 0x4", "6 2 0b100", "6 2 0o4", "6_0 2 4", "1_0 2 4",
		"6 2 4_", "six 2 4", "6 two 4", "6 2 four", "a b c", "6 2 \u0664", "\u0666 2 4", "\ufeff6 2 4", "6 2 4;", "6 2 4#", "\"6 2 4\"", "{6 2 4}",
		"37 1 1", "-1 1 1", "-1 1 2", "6 0 4", "6 10 1", "6 2 0", "0 1 21", "6 2 17", "17 1 21", "18 1 20", "36 1 2", "6 2 40", "127 1 1", "128 1 1",
		"-128 1 1", "256 1 1", "262 2 4", "6 258 4", "6 2 260", "-250 2 4", "6 -254 4", "6 2 -252", "65542 2 4", "4294967302 2 4", "6 4294967298 4",
		"6 2 4294967300", "18446744073709551622 2 4", "6 2 18446744073709551620", "9223372036854775807 1 1", "-9223372036854775808 1 1",
		"9223372036854775808 1 1", "99999999999999999999 1 1", "6 2 4 6 2 4", "6 2 46 2 4", "6 2 4\n6 2 4",
	} {
		checkNoStrip(t, text)
	}
}

// TestStripTextsChanged changes single bytes: whatever is read is written just so.
func TestStripTextsChanged(t *testing.T) {
	for _, text := range []string{"6 2 4", "17 1 20", "0 9 5", "36 9 1"} {
		for i := 0; i <= len(text); i++ {
			for b := range 256 {
				checkStripReadBack(t, text[:i]+string([]byte{byte(b)})+text[i:])
				if i < len(text) {
					checkStripReadBack(t, text[:i]+string([]byte{byte(b)})+text[i+1:])
				}
			}
			checkStripReadBack(t, text[:i])
			checkStripReadBack(t, text[i:])
		}
	}
}

func checkStripReadBack(t *testing.T, text string) {
	t.Helper()
	s, code := impl.ReadStrip(text)
	if code != impl.OK {
		checkNoStrip(t, text)
		return
	}
	if !isStrip(s) || impl.StripText(s) != text {
		t.Errorf("%q: got %v", text, s)
	}
}
