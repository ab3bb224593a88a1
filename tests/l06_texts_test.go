package tests

import (
	"strconv"
	"strings"
	"testing"

	"loop.example/g01301/impl"
)

const exampleSceneText = "10 10 10 10 10 10/10 10 10 20 20 10/10 10 10 20 20 10/10 10 10 10 10 40"

func TestSceneTexts(t *testing.T) {
	for _, c := range []struct {
		text string
		s    impl.Scene
	}{
		{exampleSceneText, exampleScene()},
		{"0 0 0 0 0 0/0 0 0 0 0 0/0 0 0 0 0 0/0 0 0 0 0 0", even(0)},
		{"60 60 60 60 60 60/60 60 60 60 60 60/60 60 60 60 60 60/60 60 60 60 60 60", even(60)},
		{"0 1 2 3 4 5/6 7 8 9 10 11/12 13 14 15 16 17/18 19 20 21 22 23", counted(0, 1)},
	} {
		same(t, "SceneText", impl.SceneText(c.s), c.text)
		s, code := impl.ReadScene(c.text)
		wantScene(t, c.text, s, code, c.s, impl.OK)
	}
	for _, want := range someScenes(300) {
		text := impl.SceneText(want)
		same(t, "SceneText", text, textBy(want))
		s, code := impl.ReadScene(text)
		wantScene(t, text, s, code, want, impl.OK)
	}
}

// TestSceneTextsOfNumbers writes each number in each cell: just readings are read.
func TestSceneTextsOfNumbers(t *testing.T) {
	for cell := range 24 {
		for n := -130; n <= 300; n++ {
			want, wantCode := at(exampleScene(), int8(n), cell), int64(impl.OK)
			text := textBy(want)
			if n < 0 || n > 60 {
				text = textBy(at(exampleScene(), 77, cell))
				text = strings.Replace(text, "77", strconv.Itoa(n), 1)
				want, wantCode = impl.Scene{}, impl.ErrSyntax
			}
			s, code := impl.ReadScene(text)
			wantScene(t, text, s, code, want, wantCode)
		}
	}
}

func checkNoScene(t *testing.T, text string) {
	t.Helper()
	s, code := impl.ReadScene(text)
	wantScene(t, text, s, code, impl.Scene{}, impl.ErrSyntax)
}

// TestSceneWordsNearlyRight puts words that are nearly readings in the place of the first one, of the last one, and between.
func TestSceneWordsNearlyRight(t *testing.T) {
	for _, word := range []string{
		"", " ", "00", "01", "010", "+0", "-0", "+1", "+10", "-1", "- 1", "--1", "1-", "10.", "1.0", ".5", "1e1", "0x1", "0b1", "0o1", "1_0", "_1", "1_",
		"ten", "a", "#", "?", "\u0661", "\uff11", "\u00b9", "\ufeff1", "1\x00", "\x001", "1\r", "1\n", "\n1", "1\t", "\t1", "1\u00a0", "1,", "1;", "1:1", "\xff",
		"61", "62", "99", "100", "127", "128", "-128", "-129", "255", "256", "257", "266", "-246", "65546", "4294967306", "18446744073709551626",
		"9223372036854775807", "9223372036854775808", "-9223372036854775808", "99999999999999999999", "1 1", "1/1", "1 ", " 1", "1/", "/1", "/", "//", "10 10",
	} {
		words := strings.FieldsFunc(exampleSceneText, func(r rune) bool { return r == ' ' || r == '/' })
		for _, cell := range []int{0, 1, 5, 6, 9, 17, 18, 22, 23} {
			made := append([]string{}, words...)
			made[cell] = word
			rows := []string{}
			for y := range 4 {
				rows = append(rows, strings.Join(made[6*y:6*y+6], " "))
			}
			checkNoScene(t, strings.Join(rows, "/"))
		}
	}
}

func TestSceneTextsNearlyRight(t *testing.T) {
	row := "1 2 3 4 5 6"
	rows := func(list ...string) string { return strings.Join(list, "/") }
	for _, text := range []string{
		"", " ", "/", "///", "1", "10/10/10/10", row, rows(row, row), rows(row, row, row), rows(row, row, row, row, row),
		rows(row, row, row, row) + "/", "/" + rows(row, row, row, row), rows(row, row, row, row) + " ", " " + rows(row, row, row, row),
		rows(row, row, row, row) + "\n", "\n" + rows(row, row, row, row), rows(row, row, "", row, row), rows(row, "", row, row), rows(row, row, row, ""),
		rows("", row, row, row), rows(row, row, row, row) + " 7", "7 " + rows(row, row, row, row), rows(row, row, row, row) + "/7",
		rows("1 2 3 4 5", row, row, row), rows(row, row, row, "1 2 3 4 5"), rows(row+" 7", row, row, row), rows(row, row, row, row+" 7"),
		rows("1 2 3 4 5", row+" 7", row, row), rows(row+" 7", "1 2 3 4 5", row, row), rows(row, row, "1 2 3 4 5", row+" 7"),
		rows("1 2 3 4", "1 2 3 4", "1 2 3 4", "1 2 3 4", "1 2 3 4", "1 2 3 4"), rows("1 2 3 4 5 6 1 2 3 4 5 6", "1 2 3 4 5 6 1 2 3 4 5 6"),
		rows(row, row, row) + " " + row, strings.Repeat("1 ", 23) + "1", strings.Repeat("1/", 23) + "1", strings.Repeat("1 ", 24), strings.Repeat("1/", 24),
		strings.ReplaceAll(rows(row, row, row, row), " ", "  "), strings.ReplaceAll(rows(row, row, row, row), " ", ""), strings.ReplaceAll(rows(row, row, row, row), " ", "/"),
		strings.ReplaceAll(rows(row, row, row, row), "/", " "), strings.ReplaceAll(rows(row, row, row, row), "/", ""), strings.ReplaceAll(rows(row, row, row, row), "/", "//"),
		strings.ReplaceAll(rows(row, row, row, row), "/", " /"), strings.ReplaceAll(rows(row, row, row, row), "/", "/ "), strings.ReplaceAll(rows(row, row, row, row), "/", " / "),
		strings.ReplaceAll(rows(row, row, row, row), "/", "\n"), strings.ReplaceAll(rows(row, row, row, row), "/", "\\"), strings.ReplaceAll(rows(row, row, row, row), "/", "|"),
		strings.ReplaceAll(rows(row, row, row, row), " ", "\t"), strings.ReplaceAll(rows(row, row, row, row), " ", ","), strings.ReplaceAll(rows(row, row, row, row), " ", "\u00a0"),
		"[" + rows(row, row, row, row) + "]", "\"" + rows(row, row, row, row) + "\"", rows(row, row, row, row) + "\x00", rows(row, row, row, row, row, row, row, row),
		"/1 2 3 4 5/" + rows(row, row, row), "1/ 2 3 4 5/" + rows(row, row, row), "1 2 3/4 5 6 " + rows(row, row, row), "1/2 3 4 5 6 " + rows(row, row, row),
	} {
		checkNoScene(t, text)
	}
}

// TestSceneTextsChanged changes single bytes: whatever is read is written just so.
func TestSceneTextsChanged(t *testing.T) {
	for _, text := range []string{exampleSceneText, textBy(counted(0, 1)), textBy(at(even(0), 60, 5, 6, 23))} {
		for i := 0; i <= len(text); i++ {
			for b := range 256 {
				checkSceneReadBack(t, text[:i]+string([]byte{byte(b)})+text[i:])
				if i < len(text) {
					checkSceneReadBack(t, text[:i]+string([]byte{byte(b)})+text[i+1:])
				}
			}
			if i < len(text) {
				checkSceneReadBack(t, text[:i]+text[i+1:])
			}
			checkSceneReadBack(t, text[:i])
			checkSceneReadBack(t, text[i:])
		}
	}
}

func checkSceneReadBack(t *testing.T, text string) {
	t.Helper()
	s, code := impl.ReadScene(text)
	if code != impl.OK {
		checkNoScene(t, text)
		return
	}
	if !isScene(s) || textBy(s) != text {
		t.Errorf("%q: got %v", text, s)
	}
}
