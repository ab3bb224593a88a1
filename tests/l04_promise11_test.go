package tests

import (
	"math"
	"math/rand"
	"runtime"
	"slices"
	"testing"
	"time"

	"loop.example/g01301/impl"
)

// someActs returns acts that mostly can be done with a bath.
func someActs(numbers *rand.Rand, v vat, count int) []impl.Act {
	list := []impl.Act{}
	room := min(max(v.b.Volume*v.d.PerLitre/4000, 1), 5000)
	for range count {
		switch numbers.Intn(3) {
		case 0:
			list = append(list, sheetAct(1+numbers.Int63n(room)))
		case 1:
			list = append(list, restAct(numbers.Int63n(v.d.Keeps/5+1)))
		case 2:
			list = append(list, replenishAct(numbers.Int63n(v.b.Volume+1)))
		}
	}
	return list
}

// oneByOne calls the functions of single acts, and returns what StrengthsIn, DoActs and FirstFailure have to.
func oneByOne(v vat, list []impl.Act) ([]int64, impl.Bath, int64, int64) {
	first, _ := impl.StrengthOf(v.d, v.b)
	strengths := []int64{first}
	for i, a := range list {
		next, code := actAlone(v, a)
		if code != impl.OK {
			return nil, impl.Bath{}, int64(i), code
		}
		v.b = next
		behind, _ := impl.StrengthOf(v.d, v.b)
		strengths = append(strengths, behind)
	}
	return strengths, v.b, -1, impl.OK
}

func checkActs(t *testing.T, v vat, list []impl.Act) {
	t.Helper()
	want, wantEnd, wantFailure, wantCode := oneByOne(v, list)
	end, code := impl.DoActs(v.d, v.b, list)
	wantBath(t, "DoActs", v, end, code, wantEnd, wantCode)
	strengths, code := impl.StrengthsIn(v.d, v.b, list)
	if !slices.Equal(strengths, want) || code != wantCode {
		t.Fatalf("StrengthsIn %v of %v: got %v %d, want %v %d", list, v, strengths, code, want, wantCode)
	}
	failure, code := impl.FirstFailure(v.d, v.b, list)
	if wantFailure == -1 {
		wantNumber(t, "FirstFailure", v, failure, code, 0, impl.ErrNotFound)
	} else {
		wantNumber(t, "FirstFailure", v, failure, code, wantFailure, impl.OK)
	}
}

func TestPromise11Acts(t *testing.T) {
	numbers := rand.New(rand.NewSource(6))
	for _, v := range append(edgeVats(), anyVats(2000)...) {
		checkActs(t, v, someActs(numbers, v, numbers.Intn(8)))
		list := someActs(numbers, v, impl.MaxActs)
		checkActs(t, v, list)
		list[numbers.Intn(len(list))].N = bathEdges()[numbers.Intn(len(bathEdges()))]
		checkActs(t, v, list)
	}
}

// TestPromise11Halves does the first acts together, and then the others.
func TestPromise11Halves(t *testing.T) {
	numbers := rand.New(rand.NewSource(7))
	for _, v := range anyVats(500) {
		list := someActs(numbers, v, 10)
		end, code := impl.DoActs(v.d, v.b, list)
		strengths, _ := impl.StrengthsIn(v.d, v.b, list)
		for count := range list {
			middle, firstCode := impl.DoActs(v.d, v.b, list[:count])
			if firstCode != impl.OK {
				same(t, "the code of all", code, firstCode)
				break
			}
			again, lastCode := impl.DoActs(v.d, middle, list[count:])
			wantBath(t, "the others", vat{v.d, middle}, again, lastCode, end, code)
			if code == impl.OK {
				same(t, "the strength between", strengths[count], strength(t, vat{v.d, middle}))
			}
		}
	}
}

// TestPromise11ActsByWords holds the single acts against the words of the document, with all edge numbers.
func TestPromise11ActsByWords(t *testing.T) {
	for i, v := range append(edgeVats(), anyVats(300)...) {
		if i%4 > 0 {
			continue
		}
		for _, n := range append(bathEdges(), v.b.Volume, v.b.Volume+1) {
			for _, a := range []impl.Act{sheetAct(n), restAct(n), replenishAct(n)} {
				want, wantCode := actBy(v, a)
				alone, code := actAlone(v, a)
				wantBath(t, "the act alone", v, alone, code, want, wantCode)
				end, code := impl.DoActs(v.d, v.b, []impl.Act{a})
				wantBath(t, "DoActs", v, end, code, want, wantCode)
			}
		}
	}
}

func TestPromise11ActCases(t *testing.T) {
	for which, c := range map[string]struct {
		list      []impl.Act
		end       impl.Bath
		strengths []int64
		failure   int64
		code      int64
	}{
		"a sheet, a rest and all new": {[]impl.Act{sheetAct(500), restAct(50), replenishAct(2000)}, impl.Bath{Volume: 2000}, []int64{1000, 750, 375, 1000}, 0, impl.OK},
		"a rest of nothing":           {[]impl.Act{restAct(0)}, impl.Bath{Volume: 2000}, []int64{1000, 1000}, 0, impl.OK},
		"nothing replenished":         {[]impl.Act{replenishAct(0), replenishAct(0)}, impl.Bath{Volume: 2000}, []int64{1000, 1000, 1000}, 0, impl.OK},
		"a rest until it is too old":  {[]impl.Act{restAct(99), restAct(1), restAct(99900)}, impl.Bath{Volume: 2000, Age: 100000}, []int64{1000, 10, 0, 0}, 0, impl.OK},
		"all used":                    {[]impl.Act{sheetAct(1999), sheetAct(1)}, impl.Bath{}, nil, 1, impl.ErrState},
		"all used at once":            {[]impl.Act{sheetAct(2000)}, impl.Bath{Volume: 2000, Used: 2000}, []int64{1000, 0}, 0, impl.OK},
		"a spent bath made new":       {[]impl.Act{sheetAct(2000), replenishAct(2000), sheetAct(2000)}, impl.Bath{Volume: 2000, Used: 2000}, []int64{1000, 0, 1000, 0}, 0, impl.OK},
		"no area at first":            {[]impl.Act{sheetAct(0), restAct(1)}, impl.Bath{}, nil, 0, impl.ErrRange},
		"no area behind others":       {[]impl.Act{restAct(1), sheetAct(5), sheetAct(0)}, impl.Bath{}, nil, 2, impl.ErrRange},
		"range ahead of state":        {[]impl.Act{restAct(1), sheetAct(5001), sheetAct(3000)}, impl.Bath{}, nil, 1, impl.ErrRange},
		"state ahead of range":        {[]impl.Act{restAct(1), sheetAct(3000), sheetAct(5001)}, impl.Bath{}, nil, 1, impl.ErrState},
		"too old for a sheet":         {[]impl.Act{restAct(100), replenishAct(0), sheetAct(1), restAct(100001)}, impl.Bath{}, nil, 2, impl.ErrState},
		"older than can be":           {[]impl.Act{restAct(100000), replenishAct(1), restAct(50), restAct(1)}, impl.Bath{}, nil, 3, impl.ErrState},
		"more than is in it":          {[]impl.Act{replenishAct(2000), replenishAct(2001)}, impl.Bath{}, nil, 1, impl.ErrRange},
		"less than nothing":           {[]impl.Act{restAct(math.MinInt64)}, impl.Bath{}, nil, 0, impl.ErrRange},
		"the greatest number":         {[]impl.Act{restAct(7), replenishAct(math.MaxInt64)}, impl.Bath{}, nil, 1, impl.ErrRange},
		"two that fail":               {[]impl.Act{sheetAct(1), restAct(-1), restAct(-1)}, impl.Bath{}, nil, 1, impl.ErrRange},
	} {
		v := vat{exampleDeveloper(), impl.Bath{Volume: 2000}}
		end, code := impl.DoActs(v.d, v.b, c.list)
		wantBath(t, which, v, end, code, c.end, c.code)
		strengths, code := impl.StrengthsIn(v.d, v.b, c.list)
		if !slices.Equal(strengths, c.strengths) || code != c.code {
			t.Errorf("%s: got %v %d, want %v %d", which, strengths, code, c.strengths, c.code)
		}
		failure, code := impl.FirstFailure(v.d, v.b, c.list)
		if c.code == impl.OK {
			wantNumber(t, which, v, failure, code, 0, impl.ErrNotFound)
		} else {
			wantNumber(t, which, v, failure, code, c.failure, impl.OK)
		}
	}
}

// TestPromise11MostActs has sixty acts, the last one of which fails or not, and one more.
func TestPromise11MostActs(t *testing.T) {
	v := vat{exampleDeveloper(), impl.Bath{Volume: 2000}}
	sixty := slices.Repeat([]impl.Act{restAct(1)}, 60)
	end, code := impl.DoActs(v.d, v.b, sixty)
	wantBath(t, "sixty", v, end, code, impl.Bath{Volume: 2000, Age: 60}, impl.OK)
	strengths, code := impl.StrengthsIn(v.d, v.b, sixty)
	same(t, "sixty", []int64{int64(len(strengths)), strengths[0], strengths[1], strengths[60], code}, []int64{61, 1000, 990, 400, impl.OK})
	sixty[59] = sheetAct(2001)
	failure, code := impl.FirstFailure(v.d, v.b, sixty)
	wantNumber(t, "the last one of sixty", v, failure, code, 59, impl.OK)
	sixtyOne := append(sixty[:60:60], restAct(1))
	wantOutcome(t, "sixty-one", outcomeOf(impl.FirstFailure(v.d, v.b, sixtyOne)), impl.ErrLimit)
	wantOutcome(t, "sixty-one", outcomeOf(impl.DoActs(v.d, v.b, sixtyOne)), impl.ErrLimit)
	wantOutcome(t, "sixty-one", outcomeOf(impl.StrengthsIn(v.d, v.b, sixtyOne)), impl.ErrLimit)
}

// TestPromise11SheetsFrom develops the sheets one by one until one of them cannot be, or is too slow.
func TestPromise11SheetsFrom(t *testing.T) {
	for _, v := range append(edgeVats(), anyVats(1000)...) {
		for _, areas := range someAreas(v) {
			for _, slower := range []int64{0, 1, 3, 9, 30, 36} {
				want, now := int64(0), v
				for _, area := range areas {
					next, code := impl.DevelopSheet(now.d, now.b, area)
					if code != impl.OK || slowerOf(strengthBy(now)) > slower {
						break
					}
					now.b = next
					want++
				}
				sheets, code := impl.SheetsFrom(v.d, v.b, areas, slower)
				wantNumber(t, "SheetsFrom", v, sheets, code, want, impl.OK)
			}
		}
	}
}

func TestPromise11SheetsFromCases(t *testing.T) {
	v := vat{exampleDeveloper(), impl.Bath{Volume: 2000}}
	for _, c := range []struct {
		areas  []int64
		slower int64
		want   int64
	}{
		{[]int64{500, 500, 500, 500}, 3, 3}, {[]int64{500, 500, 500, 500}, 6, 4}, {[]int64{500, 500, 500, 500, 1}, 36, 4},
		{[]int64{2001, 1, 1}, 36, 0}, {[]int64{1, 2000, 1}, 36, 1}, {[]int64{2000, 1}, 36, 1}, {[]int64{1, 1}, 0, 1},
		{slices.Repeat([]int64{1}, 60), 36, 60}, {slices.Repeat([]int64{33}, 60), 36, 60}, {slices.Repeat([]int64{34}, 60), 36, 58},
	} {
		sheets, code := impl.SheetsFrom(v.d, v.b, c.areas, c.slower)
		wantNumber(t, "SheetsFrom", v, sheets, code, c.want, impl.OK)
	}
	wantOutcome(t, "one too many", outcomeOf(impl.SheetsFrom(v.d, v.b, slices.Repeat([]int64{1}, 61), 36)), impl.ErrLimit)
}

// TestPromise11NothingGoesOn waits for goroutines that have sent all they had: none may be left that waits for more.
func TestPromise11NothingGoesOn(t *testing.T) {
	before := runtime.NumGoroutine()
	numbers := rand.New(rand.NewSource(8))
	for _, v := range anyVats(1000) {
		list := someActs(numbers, v, impl.MaxActs)
		impl.StrengthsIn(v.d, v.b, list)
		impl.StrengthsIn(v.d, v.b, append(list[:5:5], sheetAct(0)))
		impl.StrengthsIn(v.d, v.b, append(list, list...))
	}
	for range 200 {
		if runtime.NumGoroutine() <= before {
			return
		}
		time.Sleep(10 * time.Millisecond)
	}
	t.Errorf("%d goroutines are left, of %d before", runtime.NumGoroutine(), before)
}
