package tests

import (
	"math"
	"math/rand"
	"slices"
	"strconv"
	"strings"
	"testing"

	"loop.example/g01301/impl"
)

func wantActs(t *testing.T, what string, list []impl.Act, code int64, want []impl.Act, wantCode int64) {
	t.Helper()
	if !slices.Equal(list, want) || code != wantCode {
		t.Errorf("%q: got %v %d, want %v %d", what, list, code, want, wantCode)
	}
}

func TestActTexts(t *testing.T) {
	for _, c := range []struct {
		text string
		list []impl.Act
	}{
		{"", nil},
		{"sheet 0\n", []impl.Act{sheetAct(0)}},
		{"rest 0\n", []impl.Act{restAct(0)}},
		{"replenish 0\n", []impl.Act{replenishAct(0)}},
		{"sheet 100000\n", []impl.Act{sheetAct(100000)}},
		{"rest 100000\n", []impl.Act{restAct(100000)}},
		{"replenish 100000\n", []impl.Act{replenishAct(100000)}},
		{"sheet 500\nrest 50\nreplenish 2000\n", []impl.Act{sheetAct(500), restAct(50), replenishAct(2000)}},
		{"rest 9\nrest 10\nsheet 1\nsheet 1\n", []impl.Act{restAct(9), restAct(10), sheetAct(1), sheetAct(1)}},
		{strings.Repeat("replenish 12345\n", 60), slices.Repeat([]impl.Act{replenishAct(12345)}, 60)},
	} {
		same(t, "ActsText", impl.ActsText(c.list), c.text)
		list, code := impl.ReadActs(c.text)
		wantActs(t, c.text, list, code, c.list, impl.OK)
	}
	for n := int64(0); n <= 100000; n += 1 + n/50 {
		for kind, name := range []string{"sheet", "rest", "replenish"} {
			text, want := name+" "+strconv.FormatInt(n, 10)+"\n", []impl.Act{{Kind: int8(kind), N: n}}
			same(t, "ActsText", impl.ActsText(want), text)
			list, code := impl.ReadActs(text)
			wantActs(t, text, list, code, want, impl.OK)
		}
	}
}

func TestActTextsOfMany(t *testing.T) {
	numbers := rand.New(rand.NewSource(9))
	for count := range 70 {
		list := []impl.Act{}
		for range count {
			list = append(list, impl.Act{Kind: int8(numbers.Intn(3)), N: numbers.Int63n(100001)})
		}
		text := impl.ActsText(list)
		if count > 60 {
			same(t, "ActsText of too many", text, "")
			continue
		}
		same(t, "lines", strings.Count(text, "\n"), count)
		read, code := impl.ReadActs(text)
		wantActs(t, text, read, code, list, impl.OK)
	}
	wantOutcome(t, "one too many", outcomeOf(impl.ReadActs(strings.Repeat("rest 1\n", 61))), impl.ErrSyntax)
}

func TestActsWithoutText(t *testing.T) {
	for kind := math.MinInt8; kind <= math.MaxInt8; kind++ {
		a := impl.Act{Kind: int8(kind), N: 5}
		known := kind >= 0 && kind <= 2
		same(t, "ActsText", impl.ActsText([]impl.Act{a}) != "", known)
		same(t, "ActsText at last", impl.ActsText([]impl.Act{restAct(1), a}) != "", known)
		same(t, "ActsText at first", impl.ActsText([]impl.Act{a, restAct(1)}) != "", known)
	}
	for _, n := range bathEdges() {
		for kind := range int8(3) {
			a := impl.Act{Kind: kind, N: n}
			fits := n >= 0 && n <= 100000
			same(t, "ActsText", impl.ActsText([]impl.Act{a}) != "", fits)
			same(t, "ActsText at last", impl.ActsText([]impl.Act{restAct(1), a}) != "", fits)
			same(t, "ActsText at first", impl.ActsText([]impl.Act{a, restAct(1)}) != "", fits)
		}
	}
}

func checkNoActs(t *testing.T, text string) {
	t.Helper()
	list, code := impl.ReadActs(text)
	if code != impl.ErrSyntax || len(list) > 0 {
		t.Errorf("ReadActs %q: got %v %d", text, list, code)
	}
}

func TestActTextsNearlyRight(t *testing.T) {
	for _, line := range []string{
		"", " ", "5", " 5", "sheet", "sheet ", "sheet5", "sheet  5", "sheet\t5", "sheet\u00a05", " sheet 5", "sheet 5 ", "sheet 5 5", "sheet 5\r",
		"Sheet 5", "SHEET 5", "sheeT 5", "sheets 5", "shee 5", "sheet: 5", "sheet,5", "sheet=5", "5 sheet", "sheet sheet 5", "sheet rest 5",
		"Rest 5", "REST 5", "rests 5", "res 5", "rest", "rest ", "rest5", "Replenish 5", "REPLENISH 5", "replenis 5", "replenishes 5", "replenish",
		"dry 5", "0 5", "1 5", "act 5", "sheet 05", "sheet 00", "sheet 000005", "sheet +5", "sheet +0", "sheet -0", "sheet -5", "sheet - 5",
		"rest 05", "rest +5", "rest -1", "replenish 05", "replenish +5", "replenish -1", "rest 100001", "sheet 100001", "replenish 100001",
		"rest 0100000", "rest 1000000", "rest 4294967296", "rest 4294967301", "rest 9223372036854775807", "rest 9223372036854775808",
		"rest 18446744073709551616", "rest 18446744073709551621", "rest -9223372036854775808", "sheet 5.0", "sheet 5.", "sheet .5", "sheet 5e1",
		"sheet 0x5", "sheet 5_0", "sheet 1,000", "sheet a", "sheet \u0665", "sheet 5\x00", "\x00sheet 5", "sheet\x005", "sheet 5;", "sheet 5#",
	} {
		checkNoActs(t, line+"\n")
		checkNoActs(t, "sheet 5\n"+line+"\n")
		checkNoActs(t, line+"\nsheet 5\n")
		if line != "" {
			checkNoActs(t, line)
			checkNoActs(t, "sheet 5\n"+line)
		}
	}
	for _, text := range []string{
		"sheet 5", "sheet 5\nrest 5", "\nsheet 5\n", "sheet 5\n\n", "sheet 5\n\nrest 5\n", "sheet 5 rest 5\n", "sheet 5rest 5\n", "sheet\n5\n",
		"sheet 5\r\n", "sheet 5\rrest 5\n", "sheet 5\n ", "sheet 5\n\x00", "\ufeffsheet 5\n",
	} {
		checkNoActs(t, text)
	}
}

// TestActTextsChanged changes single bytes: whatever is read is written just so.
func TestActTextsChanged(t *testing.T) {
	for _, text := range []string{"sheet 500\nrest 50\nreplenish 2000\n", "rest 0\n", "replenish 100000\nsheet 1\n"} {
		for i := 0; i <= len(text); i++ {
			for b := range 256 {
				checkActsReadBack(t, text[:i]+string([]byte{byte(b)})+text[i:])
				if i < len(text) {
					checkActsReadBack(t, text[:i]+string([]byte{byte(b)})+text[i+1:])
				}
			}
			checkActsReadBack(t, text[:i])
			checkActsReadBack(t, text[i:])
		}
	}
}

func checkActsReadBack(t *testing.T, text string) {
	t.Helper()
	list, code := impl.ReadActs(text)
	if code != impl.OK {
		checkNoActs(t, text)
		return
	}
	if impl.ActsText(list) != text {
		t.Errorf("%q: got %v", text, list)
	}
}
