package tests

import (
	"math"
	"slices"
	"strings"
	"testing"

	"loop.example/g01301/impl"
)

// bathEdges are limits of the chapter, their neighbours, and numbers that wrap around to small ones or overflow.
func bathEdges() []int64 {
	return append(edgeNumbers(),
		-1<<61, -100001, -100000, -20001, -5001, -1000, 98, 500, 1999, 2000, 2001, 4999, 5000, 5001, 19999, 20000, 20001, 99998, 99999,
		100000, 100001, 1<<32+1000, 1<<53, math.MaxInt64/1000, math.MaxInt64/1000+1, math.MaxInt64/5, 1<<61, 1<<62)
}

func TestPromise1Developers(t *testing.T) {
	for _, base := range edgeDevelopers() {
		same(t, "ValidDeveloper", impl.ValidDeveloper(base), true)
		for _, n := range bathEdges() {
			d := base
			d.PerLitre = n
			checkDeveloper(t, d, n >= 100 && n <= 100000)
			d = base
			d.Keeps = n
			checkDeveloper(t, d, n >= 1 && n <= 100000)
		}
		for n := math.MinInt8; n <= math.MaxInt8; n++ {
			d := base
			d.Base = int8(n)
			checkDeveloper(t, d, n >= 10 && n <= 40)
			d = base
			d.PerThird = int8(n)
			checkDeveloper(t, d, n >= 1 && n <= 10)
		}
	}
	checkDeveloper(t, impl.Developer{}, false)
}

// checkDeveloper also has a bath that is valid for each developer that is valid.
func checkDeveloper(t *testing.T, d impl.Developer, want bool) {
	t.Helper()
	fresh, code := impl.NewBath(d, 1)
	if impl.ValidDeveloper(d) != want || impl.ValidBath(d, impl.Bath{Volume: 1}) != want || (code == impl.OK) != want {
		t.Fatalf("%v: got %v %v %d, want %v", d, impl.ValidDeveloper(d), fresh, code, want)
	}
	for _, volume := range []int64{1, 20000, 0, 20001, math.MinInt64, math.MaxInt64} {
		if !want {
			wantOutcome(t, "NewBath", outcomeOf(impl.NewBath(d, volume)), impl.ErrInvalid)
		}
	}
}

func TestPromise1Baths(t *testing.T) {
	for _, v := range append(edgeVats(), anyVats(300)...) {
		same(t, "ValidBath", impl.ValidBath(v.d, v.b), true)
	}
	for _, d := range edgeDevelopers() {
		for _, n := range bathEdges() {
			checkBath(t, vat{d, impl.Bath{Volume: n}}, n >= 1 && n <= 20000)
			checkBath(t, vat{d, impl.Bath{Volume: 20000, Used: n}}, n >= 0 && n <= 20*d.PerLitre)
			checkBath(t, vat{d, impl.Bath{Volume: 7, Age: n}}, n >= 0 && n <= 100000)
			checkBath(t, vat{d, impl.Bath{Volume: n, Used: n, Age: n}}, n >= 1 && n <= 20000 && d.PerLitre >= 1000)
		}
	}
	checkBath(t, vat{exampleDeveloper(), impl.Bath{}}, false)
}

func checkBath(t *testing.T, v vat, want bool) {
	t.Helper()
	found, code := impl.StrengthOf(v.d, v.b)
	if impl.ValidBath(v.d, v.b) != want || want != (code == impl.OK) || !want && (found != 0 || code != impl.ErrInvalid) {
		t.Fatalf("%v: got %v %d %d, want %v", v, impl.ValidBath(v.d, v.b), found, code, want)
	}
}

// TestPromise1SpentBaths has baths that are just spent, and those that would be spent by one more.
func TestPromise1SpentBaths(t *testing.T) {
	for _, c := range []struct {
		perLitre, volume, most int64
	}{
		{100, 1, 0}, {100, 9, 0}, {100, 10, 1}, {100, 19, 1}, {100, 20, 2}, {100, 20000, 2000}, {999, 1, 0}, {999, 2, 1}, {999, 1000, 999},
		{999, 1001, 999}, {999, 1002, 1000}, {1000, 1, 1}, {1000, 20000, 20000}, {1001, 999, 999}, {1001, 1000, 1001}, {100000, 1, 100},
		{100000, 20000, 2000000}, {99999, 20000, 1999980}, {99999, 19999, 1999880},
	} {
		d := impl.Developer{PerLitre: c.perLitre, Keeps: 5, Base: 20, PerThird: 2}
		checkBath(t, vat{d, impl.Bath{Volume: c.volume, Used: c.most}}, true)
		checkBath(t, vat{d, impl.Bath{Volume: c.volume, Used: c.most + 1}}, false)
	}
	same(t, "limits", []int64{impl.MaxBath, impl.MaxArea, impl.MaxUsed, impl.MaxAge, impl.MaxActs, impl.Fresh},
		[]int64{20000, 5000, 100000000, 100000, 60, 1000})
	same(t, "kinds", []int64{impl.AcSheet, impl.AcRest, impl.AcReplenish}, []int64{0, 1, 2})
}

// invalidVats are not valid by one number alone, which may be another one for each of them.
func invalidVats() []vat {
	list := []vat{{impl.Developer{}, impl.Bath{}}, {exampleDeveloper(), impl.Bath{}}, {impl.Developer{}, impl.Bath{Volume: 1000}}}
	for _, n := range []int64{math.MinInt64, -1 << 61, -1, 0, 100001, 1 << 61, math.MaxInt64} {
		d := exampleDeveloper()
		d.PerLitre = n
		list = append(list, vat{d, impl.Bath{Volume: 1000}})
		d = exampleDeveloper()
		d.Keeps = n
		list = append(list, vat{d, impl.Bath{Volume: 1000}})
		list = append(list, vat{exampleDeveloper(), impl.Bath{Volume: n, Used: 0}})
	}
	for _, n := range []int8{math.MinInt8, -1, 0, 41, math.MaxInt8} {
		list = append(list, vat{impl.Developer{PerLitre: 1000, Keeps: 100, Base: n, PerThird: 2}, impl.Bath{Volume: 1000}})
		list = append(list, vat{impl.Developer{PerLitre: 1000, Keeps: 100, Base: 20, PerThird: n}, impl.Bath{Volume: 1000}})
	}
	for _, n := range []int64{math.MinInt64, -1 << 61, -1, 1001, 100000001, math.MaxInt64/1000 + 1, 1 << 61, math.MaxInt64} {
		list = append(list, vat{exampleDeveloper(), impl.Bath{Volume: 1000, Used: n}})
	}
	for _, n := range []int64{math.MinInt64, -1, 100001, math.MaxInt64} {
		list = append(list, vat{exampleDeveloper(), impl.Bath{Volume: 1000, Age: n}})
	}
	return list
}

// callsOfBaths are the functions of a bath, with a number for all else.
func callsOfBaths() map[string]func(v vat, n int64) outcome {
	return map[string]func(v vat, n int64) outcome{
		"StrengthOf":            func(v vat, _ int64) outcome { return outcomeOf(impl.StrengthOf(v.d, v.b)) },
		"DevelopTime thirds":    func(v vat, n int64) outcome { return outcomeOf(impl.DevelopTime(v.d, v.b, n, 20)) },
		"DevelopTime degrees":   func(v vat, n int64) outcome { return outcomeOf(impl.DevelopTime(v.d, v.b, 3, n)) },
		"DevelopSheet":          func(v vat, n int64) outcome { return outcomeOf(impl.DevelopSheet(v.d, v.b, n)) },
		"RestBath":              func(v vat, n int64) outcome { return outcomeOf(impl.RestBath(v.d, v.b, n)) },
		"Replenish":             func(v vat, n int64) outcome { return outcomeOf(impl.Replenish(v.d, v.b, n)) },
		"ReplenishFor":          func(v vat, n int64) outcome { return outcomeOf(impl.ReplenishFor(v.d, v.b, n)) },
		"MixBaths a":            func(v vat, n int64) outcome { return outcomeOf(impl.MixBaths(v.d, v.b, impl.Bath{Volume: n})) },
		"MixBaths b":            func(v vat, n int64) outcome { return outcomeOf(impl.MixBaths(v.d, impl.Bath{Volume: n}, v.b)) },
		"SheetsLeft area":       func(v vat, n int64) outcome { return outcomeOf(impl.SheetsLeft(v.d, v.b, n, 3)) },
		"SheetsLeft slower":     func(v vat, n int64) outcome { return outcomeOf(impl.SheetsLeft(v.d, v.b, 100, n)) },
		"DoActs":                func(v vat, n int64) outcome { return outcomeOf(impl.DoActs(v.d, v.b, actsWith(n))) },
		"FirstFailure":          func(v vat, n int64) outcome { return outcomeOf(impl.FirstFailure(v.d, v.b, actsWith(n))) },
		"StrengthsIn":           func(v vat, n int64) outcome { return outcomeOf(impl.StrengthsIn(v.d, v.b, actsWith(n))) },
		"LeastReplenished area": func(v vat, n int64) outcome { return outcomeOf(impl.LeastReplenished(v.d, v.b, []int64{9, n}, 3)) },
		"LeastReplenished slower": func(v vat, n int64) outcome {
			return outcomeOf(impl.LeastReplenished(v.d, v.b, []int64{9, 8}, n))
		},
		"SheetsFrom area":   func(v vat, n int64) outcome { return outcomeOf(impl.SheetsFrom(v.d, v.b, []int64{9, n}, 3)) },
		"SheetsFrom slower": func(v vat, n int64) outcome { return outcomeOf(impl.SheetsFrom(v.d, v.b, []int64{9, 8}, n)) },
	}
}

// actsWith has a Kind and an N of a number, and too many acts for some.
func actsWith(n int64) []impl.Act {
	list := []impl.Act{sheetAct(9), {Kind: int8(n), N: n}}
	if n%7 == 0 {
		list = append(list, make([]impl.Act, impl.MaxActs)...)
	}
	return list
}

// TestPromise1InvalidVats gives arguments that are wrong otherwise as well, because ErrInvalid comes first.
func TestPromise1InvalidVats(t *testing.T) {
	for _, v := range invalidVats() {
		same(t, "ValidBath", impl.ValidBath(v.d, v.b), false)
		for name, call := range callsOfBaths() {
			for _, n := range bathEdges() {
				wantOutcome(t, name, call(v, n), impl.ErrInvalid)
			}
		}
		many := make([]int64, 61)
		wantOutcome(t, "LeastReplenished", outcomeOf(impl.LeastReplenished(v.d, v.b, many, 3)), impl.ErrInvalid)
		wantOutcome(t, "LeastReplenished", outcomeOf(impl.LeastReplenished(v.d, v.b, nil, 3)), impl.ErrInvalid)
		wantOutcome(t, "SheetsFrom", outcomeOf(impl.SheetsFrom(v.d, v.b, many, 3)), impl.ErrInvalid)
		wantOutcome(t, "SheetsFrom", outcomeOf(impl.SheetsFrom(v.d, v.b, nil, 3)), impl.ErrInvalid)
		wantOutcome(t, "DoActs", outcomeOf(impl.DoActs(v.d, v.b, nil)), impl.ErrInvalid)
		wantOutcome(t, "FirstFailure", outcomeOf(impl.FirstFailure(v.d, v.b, nil)), impl.ErrInvalid)
		wantOutcome(t, "StrengthsIn", outcomeOf(impl.StrengthsIn(v.d, v.b, nil)), impl.ErrInvalid)
	}
}

// TestPromise1BathNumbers calls with all edge numbers: what is out of range is ErrRange, also for baths that can do nothing.
func TestPromise1BathNumbers(t *testing.T) {
	limits := map[string][2]int64{
		"DevelopTime thirds": {0, 36}, "DevelopTime degrees": {5, 50}, "DevelopSheet": {1, 5000}, "RestBath": {0, 100000},
		"ReplenishFor": {0, 1000}, "SheetsLeft area": {1, 5000}, "SheetsLeft slower": {0, 36}, "LeastReplenished area": {1, 5000},
		"LeastReplenished slower": {0, 36}, "SheetsFrom area": {1, 5000}, "SheetsFrom slower": {0, 36},
	}
	calls := callsOfBaths()
	for i, v := range append(edgeVats(), anyVats(100)...) {
		if i%5 > 0 {
			continue
		}
		limits["Replenish"] = [2]int64{0, v.b.Volume}
		for name, limit := range limits {
			for _, n := range append(bathEdges(), v.b.Volume, v.b.Volume+1) {
				got, fits := calls[name](v, n), n >= limit[0] && n <= limit[1]
				if fits == (got.code == impl.ErrRange) || got.code != impl.OK && !got.zero {
					t.Fatalf("%s %d of %v: got %s %d", name, n, v, got.results, got.code)
				}
			}
		}
	}
	for _, n := range bathEdges() {
		checkRange(t, "NewBath", outcomeOf(impl.NewBath(exampleDeveloper(), n)), n >= 1 && n <= 20000)
		if n != 0 {
			checkRange(t, "SlowerBy", outcomeOf(impl.SlowerBy(n)), n >= 1 && n <= 1000)
		}
	}
}

// TestPromise1BathOrder has arguments with two errors, or more, of which the first one counts.
func TestPromise1BathOrder(t *testing.T) {
	d := exampleDeveloper()
	spent, old := impl.Bath{Volume: 1000, Used: 1000}, impl.Bath{Volume: 1000, Age: 100}
	oldest := impl.Bath{Volume: 1000, Age: 100000}
	for _, b := range []impl.Bath{spent, old, oldest} {
		wantOutcome(t, "range, state and limit", outcomeOf(impl.DevelopTime(d, b, 37, 5)), impl.ErrRange)
		wantOutcome(t, "range, state and limit", outcomeOf(impl.DevelopTime(d, b, -1, 50)), impl.ErrRange)
		wantOutcome(t, "range, state and limit", outcomeOf(impl.DevelopTime(d, b, 36, 4)), impl.ErrRange)
		wantOutcome(t, "range, state and limit", outcomeOf(impl.DevelopTime(d, b, 0, 51)), impl.ErrRange)
		wantOutcome(t, "state and limit", outcomeOf(impl.DevelopTime(d, b, 36, 5)), impl.ErrState)
		wantOutcome(t, "state and limit", outcomeOf(impl.DevelopTime(d, b, 0, 50)), impl.ErrState)
		wantOutcome(t, "range and state", outcomeOf(impl.DevelopSheet(d, b, 5001)), impl.ErrRange)
		wantOutcome(t, "range and state", outcomeOf(impl.DevelopSheet(d, b, 0)), impl.ErrRange)
		wantOutcome(t, "state twice", outcomeOf(impl.DevelopSheet(d, b, 5000)), impl.ErrState)
	}
	wantOutcome(t, "limit", outcomeOf(impl.DevelopTime(d, impl.Bath{Volume: 1000}, 36, 5)), impl.ErrLimit)
	wantOutcome(t, "range and state", outcomeOf(impl.RestBath(d, oldest, 100001)), impl.ErrRange)
	wantOutcome(t, "state", outcomeOf(impl.RestBath(d, oldest, 1)), impl.ErrState)
	wantOutcome(t, "range and none found", outcomeOf(impl.SlowerBy(-1)), impl.ErrRange)
	wantOutcome(t, "none found", outcomeOf(impl.SlowerBy(0)), impl.ErrNotFound)
}

// TestPromise1ActOrder has the same for lists: the whole list is checked for each error, ahead of what acts do.
func TestPromise1ActOrder(t *testing.T) {
	d, b := exampleDeveloper(), impl.Bath{Volume: 1000, Used: 900}
	failing, unknown := sheetAct(101), impl.Act{Kind: 3, N: 1}
	many := slices.Repeat([]impl.Act{failing}, 60)
	for which, c := range map[string]struct {
		list []impl.Act
		code int64
	}{
		"limit, kind and state":      {append([]impl.Act{unknown}, many...), impl.ErrLimit},
		"limit, kind at last":        {append(slices.Clone(many), unknown), impl.ErrLimit},
		"limit and state":            {append([]impl.Act{failing}, many...), impl.ErrLimit},
		"kind behind a failing act":  {[]impl.Act{failing, unknown}, impl.ErrRange},
		"kind as the last of sixty":  {append(many[:59:59], unknown), impl.ErrRange},
		"kind ahead of a failing":    {[]impl.Act{unknown, failing}, impl.ErrRange},
		"kind -1":                    {[]impl.Act{failing, {Kind: -1, N: 1}}, impl.ErrRange},
		"the least kind":             {[]impl.Act{failing, {Kind: math.MinInt8, N: 1}}, impl.ErrRange},
		"the greatest kind":          {[]impl.Act{failing, {Kind: math.MaxInt8, N: 1}}, impl.ErrRange},
		"kind, and an N beyond all":  {[]impl.Act{failing, {Kind: 3, N: math.MaxInt64}}, impl.ErrRange},
		"kind with an N of nothing":  {[]impl.Act{failing, {Kind: 3}}, impl.ErrRange},
		"kind behind acts that work": {[]impl.Act{restAct(1), sheetAct(1), {Kind: 4}}, impl.ErrRange},
	} {
		wantOutcome(t, which, outcomeOf(impl.DoActs(d, b, c.list)), c.code)
		wantOutcome(t, which, outcomeOf(impl.FirstFailure(d, b, c.list)), c.code)
		wantOutcome(t, which, outcomeOf(impl.StrengthsIn(d, b, c.list)), c.code)
	}
}

func TestPromise1AreaOrder(t *testing.T) {
	d, b := exampleDeveloper(), impl.Bath{Volume: 1000, Used: 900}
	many := slices.Repeat([]int64{1001}, 61)
	for which, c := range map[string]struct {
		areas  []int64
		slower int64
		code   int64
	}{
		"limit and none found":         {many, 3, impl.ErrLimit},
		"limit, range and none found":  {append([]int64{0}, many...), -1, impl.ErrLimit},
		"limit and range at last":      {append(slices.Clone(many), 5001), 37, impl.ErrLimit},
		"range behind none found":      {[]int64{1001, 0}, 3, impl.ErrRange},
		"range as the last of sixty":   {append(many[:59:59], 5001), 3, impl.ErrRange},
		"slower -1 and none found":     {[]int64{1001}, -1, impl.ErrRange},
		"slower 37 and none found":     {[]int64{1001}, 37, impl.ErrRange},
		"slower 37 of nothing":         {nil, 37, impl.ErrRange},
		"slower -1 of nothing":         {[]int64{}, -1, impl.ErrRange},
		"the least and greatest areas": {[]int64{math.MinInt64, math.MaxInt64}, 3, impl.ErrRange},
	} {
		wantOutcome(t, which, outcomeOf(impl.LeastReplenished(d, b, c.areas, c.slower)), c.code)
		wantOutcome(t, which, outcomeOf(impl.SheetsFrom(d, b, c.areas, c.slower)), c.code)
	}
	wantOutcome(t, "none found", outcomeOf(impl.LeastReplenished(d, b, many[:60], 3)), impl.ErrNotFound)
	sheets, code := impl.SheetsFrom(d, b, many[:60], 3)
	wantNumber(t, "SheetsFrom", vat{d, b}, sheets, code, 0, impl.OK)
}

// TestPromise1BathsHuge gives lists and texts with a million elements.
func TestPromise1BathsHuge(t *testing.T) {
	const million = 1000000
	d, b := exampleDeveloper(), impl.Bath{Volume: 1000}
	acts, areas := make([]impl.Act, million), make([]int64, million)
	wantOutcome(t, "DoActs", outcomeOf(impl.DoActs(d, b, acts)), impl.ErrLimit)
	wantOutcome(t, "FirstFailure", outcomeOf(impl.FirstFailure(d, b, acts)), impl.ErrLimit)
	wantOutcome(t, "StrengthsIn", outcomeOf(impl.StrengthsIn(d, b, acts)), impl.ErrLimit)
	wantOutcome(t, "LeastReplenished", outcomeOf(impl.LeastReplenished(d, b, areas, 3)), impl.ErrLimit)
	wantOutcome(t, "SheetsFrom", outcomeOf(impl.SheetsFrom(d, b, areas, 3)), impl.ErrLimit)
	same(t, "ActsText", impl.ActsText(acts), "")
	for _, part := range []string{"\n", " ", "0", "s", "sheet ", "sheet", "rest 1\n", "sheet 1\n", "replenish 100000\n", "\x00", "\xff"} {
		text := strings.Repeat(part, million/len(part))
		for _, start := range []string{"", "sheet ", "rest 0", "sheet 1\n", "rest 1\nreplenish 5"} {
			wantOutcome(t, "ReadActs", outcomeOf(impl.ReadActs(start+text)), impl.ErrSyntax)
		}
	}
}

// TestPromise1ActsNilAndEmpty: both are the same list, with which nothing is done.
func TestPromise1ActsNilAndEmpty(t *testing.T) {
	for _, v := range edgeVats() {
		for _, list := range [][]impl.Act{nil, {}, make([]impl.Act, 3)[:0]} {
			end, code := impl.DoActs(v.d, v.b, list)
			wantBath(t, "DoActs", v, end, code, v.b, impl.OK)
			wantOutcome(t, "FirstFailure", outcomeOf(impl.FirstFailure(v.d, v.b, list)), impl.ErrNotFound)
			strengths, code := impl.StrengthsIn(v.d, v.b, list)
			same(t, "StrengthsIn", strengths, []int64{strengthBy(v)})
			same(t, "StrengthsIn", code, int64(impl.OK))
			same(t, "ActsText", impl.ActsText(list), "")
		}
		for _, areas := range [][]int64{nil, {}, make([]int64, 3)[:0]} {
			list, sum, code := impl.LeastReplenished(v.d, v.b, areas, 0)
			same(t, "LeastReplenished", []int64{int64(len(list)), sum, code}, []int64{0, 0, impl.OK})
			sheets, code := impl.SheetsFrom(v.d, v.b, areas, 0)
			wantNumber(t, "SheetsFrom", v, sheets, code, 0, impl.OK)
		}
	}
	list, code := impl.ReadActs("")
	same(t, "ReadActs", []int64{int64(len(list)), code}, []int64{0, impl.OK})
}

// TestPromise1BathArguments gives lists with unused capacity, all of which has to stay as it is.
func TestPromise1BathArguments(t *testing.T) {
	acts := []impl.Act{sheetAct(500), restAct(50), replenishAct(2000), sheetAct(77), {Kind: 9, N: -9}, restAct(7)}
	areas := []int64{500, 500, 500, 1500, 1, 77, -7}
	keptActs, keptAreas := slices.Clone(acts), slices.Clone(areas)
	for _, v := range anyVats(100) {
		for count := range acts {
			impl.DoActs(v.d, v.b, acts[:count])
			impl.FirstFailure(v.d, v.b, acts[:count])
			impl.StrengthsIn(v.d, v.b, acts[:count])
			impl.ActsText(acts[:count])
		}
		for count := range areas {
			impl.LeastReplenished(v.d, v.b, areas[:count], 3)
			impl.SheetsFrom(v.d, v.b, areas[:count], 3)
		}
	}
	same(t, "acts", acts, keptActs)
	same(t, "areas", areas, keptAreas)
}

// TestPromise1BathResults changes each list that is returned, and all behind it, and calls again.
func TestPromise1BathResults(t *testing.T) {
	d, b := exampleDeveloper(), impl.Bath{Volume: 2000}
	acts, areas := []impl.Act{sheetAct(500), restAct(50), replenishAct(2000)}, []int64{500, 500, 500, 1500}
	keptActs, keptAreas := slices.Clone(acts), slices.Clone(areas)
	checkFresh(t, "StrengthsIn", func() ([]int64, int64) { return impl.StrengthsIn(d, b, acts) }, -7)
	checkFresh(t, "StrengthsIn of nothing", func() ([]int64, int64) { return impl.StrengthsIn(d, b, nil) }, -7)
	checkFresh(t, "LeastReplenished", func() ([]int64, int64) {
		list, _, code := impl.LeastReplenished(d, b, areas, 3)
		return list, code
	}, -7)
	checkFresh(t, "ReadActs", func() ([]impl.Act, int64) { return impl.ReadActs("sheet 5\nrest 6\n") }, impl.Act{Kind: 77, N: -7})
	same(t, "acts", acts, keptActs)
	same(t, "areas", areas, keptAreas)
}

// TestPromise1BathsAgain calls with equal arguments, one after the other.
func TestPromise1BathsAgain(t *testing.T) {
	for i, v := range append(anyVats(100), edgeVats()...) {
		if i%7 > 0 {
			continue
		}
		for name, call := range callsOfBaths() {
			for _, n := range []int64{0, 1, 2, 20, 36, 100, 1000, 5000, -1} {
				first := call(v, n)
				same(t, name, call(v, n), first)
			}
		}
	}
}
