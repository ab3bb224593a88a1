package tests

import (
	"strconv"
	"strings"
	"testing"

	"loop.example/g01301/impl"
)

// TestPromise7Redone makes prints, and makes them again from their logs.
func TestPromise7Redone(t *testing.T) {
	grids, papers := someGrids(30), somePapers(30)
	for i, steps := range someStepLists(600) {
		n, paper := impl.Negative(grids[i%len(grids)]), papers[i%len(papers)]
		text := impl.LogText(paper, steps)
		made, code := impl.PrintFrom(n, paper, steps)
		if code != impl.OK || made != printBy(n, paper, steps) {
			t.Fatalf("PrintFrom %v by %q: got %v %d", n, text, made, code)
		}
		same(t, "ValidPrint", impl.ValidPrint(made), true)
		again, code := impl.RedoLog(n, text)
		if code != impl.OK || again != made {
			t.Fatalf("RedoLog %v %q: got %v %d, want %v", n, text, again, code, made)
		}
		read, back, code := impl.ReadLog(text)
		wantCurve(t, "the paper of "+text, read, code, paper, impl.OK)
		wantSteps(t, "the steps of "+text, back, code, steps, impl.OK)
	}
}

// TestPromise7RedoCodes has the order of the checks; invalid negatives are with the tests of promise 1.
func TestPromise7RedoCodes(t *testing.T) {
	for _, text := range []string{"", "x", "\n", "0:0 10:100", "0:0 10:100\n0000000000000001 37\n", "0:10 0:20\n0000000000000001 3\n"} {
		wantOutcome(t, text, outcomeOf(impl.RedoLog(flat(20), text)), impl.ErrSyntax)
	}
	for text, want := range map[string]impl.Print{
		"0:0 10:100\n":                       flat(0),
		"0:0 10:100\nffffffffffffffff 6\n":   flat(40),
		"0:0 10:100\n0000000000000000 6\n":   flat(0),
		"0:0 10:100\n8000000000000000 6\n":   with(flat(0), 63, 40),
		"-200:7 -2:50\nfffffffffffffffe 0\n": with(flat(50), 0, 7),
	} {
		p, code := impl.RedoLog(flat(20), text)
		same(t, text, p, want)
		same(t, text, code, int64(impl.OK))
	}
}

func TestPromise7TimesAndLight(t *testing.T) {
	for _, steps := range someStepLists(600) {
		times, code := impl.TimesOn(steps)
		if times != timesBy(steps) || code != impl.OK {
			t.Fatalf("TimesOn %v: got %v %d", steps, times, code)
		}
		light, code := impl.LightOn(steps)
		if light != lightBy(steps) || code != impl.OK {
			t.Fatalf("LightOn %v: got %v %d", steps, light, code)
		}
	}
}

// TestPromise7LightCases has cells without light, and times that are longer than all for which there are thirds.
func TestPromise7LightCases(t *testing.T) {
	for _, c := range []struct {
		steps       []impl.Step
		first, last []int64
		whyThatOne  string
	}{
		{nil, []int64{0, -1}, []int64{0, -1}, "no steps"},
		{repeated(30, noCells, 36), []int64{0, -1}, []int64{0, -1}, "no cells"},
		{repeated(1, 1, 0), []int64{1000, 0}, []int64{0, -1}, "the first cell, as short as can be"},
		{repeated(1, 1<<63, 36), []int64{0, -1}, []int64{4096000, 36}, "the last cell, as long as one step can"},
		{repeated(1, allCells, 1), []int64{1260, 1}, []int64{1260, 1}, "all cells"},
		{repeated(2, allCells, 35), []int64{6500352, 36}, []int64{6500352, 36}, "longer than the longest"},
		{repeated(24, allCells, 36), []int64{98304000, 36}, []int64{98304000, 36}, "just as long as ThirdsIn takes"},
		{repeated(25, allCells, 36), []int64{102400000, 36}, []int64{102400000, 36}, "longer than ThirdsIn takes"},
		{repeated(30, allCells, 36), []int64{122880000, 36}, []int64{122880000, 36}, "as long as can be"},
		{repeated(30, 1, 0), []int64{30000, 14}, []int64{0, -1}, "many short steps"},
		{[]impl.Step{{Mask: allCells, Thirds: 0}, {Mask: 1, Thirds: 0}}, []int64{2000, 3}, []int64{1000, 0}, "just a stop more"},
		{[]impl.Step{{Mask: 3, Thirds: 2}, {Mask: 1, Thirds: 2}}, []int64{3174, 5}, []int64{0, -1}, "just a time"},
		{[]impl.Step{{Mask: 1, Thirds: 1}, {Mask: 1, Thirds: 1}, {Mask: 1 << 63, Thirds: 7}}, []int64{2520, 4}, []int64{5040, 7}, "apart"},
	} {
		times, code := impl.TimesOn(c.steps)
		same(t, c.whyThatOne, code, int64(impl.OK))
		light, code := impl.LightOn(c.steps)
		same(t, c.whyThatOne, code, int64(impl.OK))
		same(t, c.whyThatOne, []int64{times[0], light[0]}, c.first)
		same(t, c.whyThatOne, []int64{times[63], light[63]}, c.last)
	}
}

// TestPromise7PrintCases has cells without light, on papers that tell them from cells with little light.
func TestPromise7PrintCases(t *testing.T) {
	ends := impl.Curve{{X: -200, Y: 1}, {X: -199, Y: 5}, {X: -41, Y: 6}, {X: -40, Y: 9}, {X: -39, Y: 11}, {X: 35, Y: 300}, {X: 36, Y: 350}, {X: 37, Y: 400}}
	for _, c := range []struct {
		negative   impl.Negative
		steps      []impl.Step
		want       impl.Print
		whyThatOne string
	}{
		{flat(0), nil, flat(1), "no light"},
		{flat(400), nil, flat(1), "no light below a dark negative"},
		{flat(0), repeated(30, noCells, 36), flat(1), "steps without cells"},
		{flat(400), repeated(1, allCells, 0), flat(9), "the least light below the darkest negative"},
		{flat(395), repeated(1, allCells, 0), flat(9), "a half that goes up"},
		{flat(394), repeated(1, allCells, 0), flat(11), "just less than a half"},
		{flat(400), repeated(1, allCells, 1), flat(11), "one third more"},
		{flat(0), repeated(1, allCells, 36), flat(350), "the most light below a clear negative"},
		{flat(4), repeated(30, allCells, 36), flat(350), "no more than the most light"},
		{flat(5), repeated(1, allCells, 36), flat(300), "a third held back"},
		{flat(0), repeated(1, 1, 36), with(flat(1), 0, 350), "the first cell alone"},
		{flat(0), repeated(1, 1<<63, 36), with(flat(1), 63, 350), "the last cell alone"},
		{with(flat(0), 8, 10), repeated(1, 0xff00, 36), impl.Print{
			1, 1, 1, 1, 1, 1, 1, 1, 300, 350, 350, 350, 350, 350, 350, 350,
			1, 1, 1, 1, 1, 1, 1, 1, 1, 1, 1, 1, 1, 1, 1, 1, 1, 1, 1, 1, 1, 1, 1, 1,
			1, 1, 1, 1, 1, 1, 1, 1, 1, 1, 1, 1, 1, 1, 1, 1, 1, 1, 1, 1, 1, 1, 1, 1,
		}, "a row"},
	} {
		p, code := impl.PrintFrom(c.negative, ends, c.steps)
		same(t, c.whyThatOne, p, c.want)
		same(t, c.whyThatOne, code, int64(impl.OK))
	}
}

// TestPromise7MoreLight has the guarantee that more light makes no cell lighter: all thirds, and a step more.
func TestPromise7MoreLight(t *testing.T) {
	for _, paper := range somePapers(30) {
		for _, g := range someGrids(3) {
			before, _ := impl.PrintFrom(g, paper, nil)
			for thirds := range 37 {
				p, code := impl.PrintFrom(g, paper, repeated(1, allCells, int8(thirds)))
				same(t, "PrintFrom", code, int64(impl.OK))
				checkNoLighter(t, before, p)
				before = p
			}
		}
	}
	papers := somePapers(30)
	for i, steps := range someStepLists(300) {
		for count := 1; count < len(steps); count++ {
			less, _ := impl.PrintFrom(numbered(), papers[i%len(papers)], steps[:count-1])
			more, _ := impl.PrintFrom(numbered(), papers[i%len(papers)], steps[:count])
			checkNoLighter(t, less, more)
		}
	}
}

func checkNoLighter(t *testing.T, less, more impl.Print) {
	t.Helper()
	for cell := range less {
		if more[cell] < less[cell] {
			t.Fatalf("the cell %d gets lighter: %d, and then %d", cell, less[cell], more[cell])
		}
	}
}

func TestPromise7LogTexts(t *testing.T) {
	lines := strings.Repeat("8000000000000001 36\n", 30)
	for _, c := range []struct {
		text  string
		paper impl.Curve
		steps []impl.Step
	}{
		{"0:0\n", impl.Curve{{X: 0, Y: 0}}, nil},
		{"-5:0\n0000000000000000 0\n", impl.Curve{{X: -5, Y: 0}}, []impl.Step{{Mask: noCells, Thirds: 0}}},
		{"0:0 10:100\nffffffffffffffff 36\n", examplePaper(), []impl.Step{{Mask: allCells, Thirds: 36}}},
		{"0:0 10:100\n0123456789abcdef 9\n", examplePaper(), []impl.Step{{Mask: 0x0123456789abcdef, Thirds: 9}}},
		{"0:0 10:100\nfedcba9876543210 10\n", examplePaper(), []impl.Step{{Mask: 0xfedcba9876543210, Thirds: 10}}},
		{"0:0 10:100\n8000000000000000 1\n000000000000000a 2\n", examplePaper(), []impl.Step{{Mask: 1 << 63, Thirds: 1}, {Mask: 10, Thirds: 2}}},
		{"0:0 10:100\n" + lines, examplePaper(), repeated(30, 1<<63|1, 36)},
	} {
		same(t, "LogText", impl.LogText(c.paper, c.steps), c.text)
		paper, steps, code := impl.ReadLog(c.text)
		wantCurve(t, c.text, paper, code, c.paper, impl.OK)
		wantSteps(t, c.text, steps, code, c.steps, impl.OK)
	}
	for cell := range 64 {
		for thirds := range 37 {
			text := "0:0\n" + strings.Repeat("0", 15-cell/4) + strconv.Itoa(1<<(cell%4)) + strings.Repeat("0", cell/4) + " " + strconv.Itoa(thirds) + "\n"
			steps := []impl.Step{{Mask: 1 << cell, Thirds: int8(thirds)}}
			same(t, "LogText", impl.LogText(impl.Curve{{}}, steps), text)
			_, read, code := impl.ReadLog(text)
			wantSteps(t, text, read, code, steps, impl.OK)
		}
	}
}

func TestPromise7LogTextsNearlyRight(t *testing.T) {
	for _, text := range []string{
		"", "\n", "\n\n", "x", "x\n", " ", "0:0 10:100", "0:0 10:100\n\n", "\n0:0 10:100\n", "0:0 10:100\r\n", " 0:0 10:100\n", "0:0 10:100 \n",
		"0:0  10:100\n", "0:0\n10:100\n", "0:10 0:20\n", "0:0 10:401\n", "0:0 010:100\n", "+0:0\n", "0:0 10:100\n\x00",
		"ffffffffffffffff 6\n", "ffffffffffffffff 6\n0:0 10:100\n", "0:0\n0:0\n",
	} {
		checkNoLog(t, text)
	}
	for _, line := range []string{
		" ", "6", " 6", "ffffffffffffffff", "ffffffffffffffff ", "ffffffffffffffff  6", "ffffffffffffffff\t6", "ffffffffffffffff6",
		"ffffffffffffffff,6", " ffffffffffffffff 6", "ffffffffffffffff 6 ", "ffffffffffffffff 6 6", "ffffffffffffffff 6\r", "6 ffffffffffffffff",
		"FFFFFFFFFFFFFFFF 6", "Ffffffffffffffff 6", "fffffffffffffffF 6", "000000000000000A 6", "fffffffffffffff 6", "0ffffffffffffffff 6",
		"fffffffffffffffff 6", "00000000000000000 6", "1 6", "f 6", "0x00000000000001 6", "0xffffffffffffffff 6", "+fffffffffffffff 6", "-000000000000001 6",
		"+ffffffffffffffff 6", "00000000000000_1 6", "000000000000000g 6", "00000000000000.1 6", "18446744073709551615 6",
		"ffffffffffffffff 06", "ffffffffffffffff 00", "ffffffffffffffff +6", "ffffffffffffffff -0", "ffffffffffffffff -1", "ffffffffffffffff 37",
		"ffffffffffffffff 036", "ffffffffffffffff 128", "ffffffffffffffff 256", "ffffffffffffffff 262", "ffffffffffffffff 4294967302",
		"ffffffffffffffff 18446744073709551622", "ffffffffffffffff a", "ffffffffffffffff 0x6", "ffffffffffffffff 1_0", "ffffffffffffffff 6.0",
		"ffffffffffffffff \u0666", "ffffffffffffffff 6\x00", "\x00ffffffffffffffff 6", "ffffffffffffffff\u00a06", "fffffffffffffff\u0661 6",
	} {
		checkNoLog(t, "0:0 10:100\n"+line+"\n")
		checkNoLog(t, "0:0 10:100\n"+line)
		checkNoLog(t, "0:0 10:100\nffffffffffffffff 6\n"+line+"\n")
		checkNoLog(t, "0:0 10:100\n"+line+"\nffffffffffffffff 6\n")
	}
	right := "ffffffffffffffff 6\n"
	checkNoLog(t, "0:0 10:100\nffffffffffffffff 6")
	checkNoLog(t, "0:0 10:100\n"+right+"ffffffffffffffff 6")
	checkNoLog(t, "0:0 10:100\n\n"+right)
	checkNoLog(t, "0:0 10:100\n"+right+"\n")
	checkNoLog(t, "0:0 10:100\n"+right+"\n"+right)
	checkNoLog(t, "0:0 10:100\n"+strings.Repeat(right, 31))
	checkNoLog(t, "0:0 10:100"+strings.Repeat(right, 2))
}

func checkNoLog(t *testing.T, text string) {
	t.Helper()
	paper, steps, code := impl.ReadLog(text)
	if code != impl.ErrSyntax || len(paper) > 0 || len(steps) > 0 {
		t.Errorf("ReadLog %q: got %v %v %d", text, paper, steps, code)
	}
	if p, code := impl.RedoLog(flat(20), text); code != impl.ErrSyntax || p != (impl.Print{}) {
		t.Errorf("RedoLog %q: got %v %d", text, p, code)
	}
}

// TestPromise7LogTextsChanged changes single bytes: whatever is read is valid, and written just so.
func TestPromise7LogTextsChanged(t *testing.T) {
	for _, text := range []string{"0:0 10:100\nffffffffffffffff 6\n0000000000000001 6\n", "-5:0\n0123456789abcdef 36\n", "7:0\n"} {
		for i := 0; i <= len(text); i++ {
			for b := range 256 {
				checkLogReadBack(t, text[:i]+string([]byte{byte(b)})+text[i:])
				if i < len(text) {
					checkLogReadBack(t, text[:i]+string([]byte{byte(b)})+text[i+1:])
				}
			}
			checkLogReadBack(t, text[:i])
			checkLogReadBack(t, text[i:])
		}
	}
}

func checkLogReadBack(t *testing.T, text string) {
	t.Helper()
	paper, steps, code := impl.ReadLog(text)
	if code != impl.OK {
		checkNoLog(t, text)
		return
	}
	if !impl.ValidCurve(paper) || !impl.ValidSteps(steps) || impl.LogText(paper, steps) != text {
		t.Errorf("%q: got %v %v", text, paper, steps)
	}
}
