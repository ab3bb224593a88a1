package tests

import (
	"strings"
	"testing"

	"loop.example/g01301/impl"
)

// maskTextBy writes each row of a mask.
func maskTextBy(mask uint64) string {
	rows := []string{}
	for y := range 8 {
		row := strings.Repeat(".", 8)
		for x := range 8 {
			if hasBit(mask, 8*y+x) {
				row = row[:x] + "#" + row[x+1:]
			}
		}
		rows = append(rows, row)
	}
	return strings.Join(rows, "\n") + "\n"
}

func TestMaskTexts(t *testing.T) {
	empty := "........\n........\n........\n........\n........\n........\n........\n........\n"
	for _, c := range []struct {
		mask uint64
		text string
	}{
		{noCells, empty},
		{allCells, strings.ReplaceAll(empty, ".", "#")},
		{1, "#" + empty[1:]},
		{1 << 7, ".......#" + empty[8:]},
		{1 << 8, "........\n#" + empty[10:]},
		{1 << 56, empty[:63] + "#.......\n"},
		{1 << 63, empty[:70] + "#\n"},
		{11, "##.#....\n" + empty[9:]},
		{0xff, "########\n" + empty[9:]},
		{771, "##......\n##......\n" + empty[18:]},
		{drawn(hook), strings.ReplaceAll(hook, " ", "\n") + "\n"},
		{drawn(spiral), strings.ReplaceAll(spiral, " ", "\n") + "\n"},
	} {
		same(t, "MaskText", impl.MaskText(c.mask), c.text)
		mask, code := impl.ReadMask(c.text)
		wantMask(t, c.text, mask, code, c.mask, impl.OK)
	}
	for _, want := range someMasks(2000) {
		text := impl.MaskText(want)
		same(t, "MaskText", text, maskTextBy(want))
		mask, code := impl.ReadMask(text)
		wantMask(t, text, mask, code, want, impl.OK)
	}
}

func checkNoMask(t *testing.T, text string) {
	t.Helper()
	mask, code := impl.ReadMask(text)
	wantMask(t, text, mask, code, 0, impl.ErrSyntax)
}

func TestMaskTextsNearlyRight(t *testing.T) {
	row, full := ".#.#.##.\n", strings.Repeat(".#.#.##.\n", 8)
	for _, text := range []string{
		"", "x", "#", ".", "\n", row, strings.Repeat(row, 7), strings.Repeat(row, 9), strings.Repeat(row, 16), strings.Repeat("\n", 8), strings.Repeat("\n", 72),
		full[:71], full[1:], full + "\n", "\n" + full, full + ".", full + "#", "." + full, "#" + full, full + " ", " " + full, full + "\x00", full + row[:8],
		full[:70] + "\n", full[:71] + ".\n", full[:71] + "#\n", ".#.#.##\n" + full[9:], ".#.#.##..\n" + full[9:], ".#.#.##\n." + full[9:], ".#.#.##..\n#.#.##.\n" + full[18:],
		"\n" + full[:71], full[9:] + row[:8], strings.ReplaceAll(full, "\n", ""), strings.ReplaceAll(full, "\n", "\n\n"), strings.ReplaceAll(full, "\n", "\r\n"),
		strings.ReplaceAll(full, "\n", "\r"), strings.ReplaceAll(full, "\n", " "), strings.ReplaceAll(full, "\n", "/"), strings.ReplaceAll(full, "\n", "\n ")[:72],
		strings.ReplaceAll(full, "#", "*"), strings.ReplaceAll(full, "#", "X"), strings.ReplaceAll(full, "#", "1"), strings.ReplaceAll(full, ".", " "), strings.ReplaceAll(full, ".", "0"),
		strings.ReplaceAll(full, ".", "-"), strings.ReplaceAll(full, ".", ","), strings.ReplaceAll(full, "#", "\uff03"), strings.ReplaceAll(full, ".", "\u00b7"),
		strings.ReplaceAll(full, "#", "##"), strings.ReplaceAll(full, ".", ".."), strings.ReplaceAll(strings.ReplaceAll(full, "#", "\n"), ".", "\n"),
		strings.Repeat(".#.#\n", 16), strings.Repeat(".#.#.##..#.#.##.\n", 4), strings.Repeat(".#\n", 32), strings.Repeat("#", 64), strings.Repeat("#", 64) + "\n", strings.Repeat("#", 72),
		strings.Repeat("#", 64) + strings.Repeat("\n", 8), strings.Repeat("\n", 8) + strings.Repeat("#", 64), strings.Repeat("\n.#.#.##.", 8), "\ufeff" + full, "\"" + full + "\"", "771", "0303",
	} {
		checkNoMask(t, text)
	}
	mask, code := impl.ReadMask(full)
	wantMask(t, full, mask, code, 0x6a6a6a6a6a6a6a6a, impl.OK)
}

// TestMaskTextsMoved moves the end of each line by one, the text being as long as before.
func TestMaskTextsMoved(t *testing.T) {
	for _, mask := range []uint64{noCells, allCells, 0x6a6a6a6a6a6a6a6a, drawn(spiral)} {
		text := maskTextBy(mask)
		for end := 8; end < 72; end += 9 {
			checkNoMask(t, text[:end-1]+"\n"+text[end-1:end]+text[end+1:])
			if end < 71 {
				checkNoMask(t, text[:end]+text[end+1:end+2]+"\n"+text[end+2:])
			}
			checkNoMask(t, text[:end]+text[end+1:])
			checkNoMask(t, text[:end]+"\n"+text[end:])
		}
	}
}

// TestMaskTextsChanged changes single bytes: whatever is read is written just so.
func TestMaskTextsChanged(t *testing.T) {
	for _, mask := range []uint64{noCells, allCells, 0x6a6a6a6a6a6a6a6a, drawn(hook)} {
		text := maskTextBy(mask)
		for i := 0; i <= len(text); i++ {
			for b := range 256 {
				checkNoMask(t, text[:i]+string([]byte{byte(b)})+text[i:])
				if i < len(text) {
					checkMaskReadBack(t, text[:i]+string([]byte{byte(b)})+text[i+1:], i, mask)
				}
			}
			if i < len(text) {
				checkNoMask(t, text[:i]+text[i+1:])
				checkNoMask(t, text[:i])
			}
			if i > 0 {
				checkNoMask(t, text[i:])
			}
		}
	}
}

// checkMaskReadBack has a text in which the byte i has been changed.
func checkMaskReadBack(t *testing.T, text string, i int, before uint64) {
	t.Helper()
	end := i%9 == 8
	if end && text[i] != '\n' || !end && text[i] != '#' && text[i] != '.' {
		checkNoMask(t, text)
		return
	}
	want := before
	if !end {
		want &^= marksOf(i - i/9)
		if text[i] == '#' {
			want |= marksOf(i - i/9)
		}
	}
	mask, code := impl.ReadMask(text)
	wantMask(t, text, mask, code, want, impl.OK)
}
