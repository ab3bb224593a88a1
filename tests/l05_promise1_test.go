package tests

import (
	"maps"
	"math"
	"slices"
	"strings"
	"testing"

	"loop.example/g01301/impl"
)

// TestPromise1StripInt8 holds validity against its definition for each number that a field can have.
func TestPromise1StripInt8(t *testing.T) {
	some := []int8{math.MinInt8, -9, -1, 0, 1, 2, 4, 5, 8, 9, 10, 17, 19, 20, 21, 35, 36, 37, 64, 120, math.MaxInt8}
	for n := math.MinInt8; n <= math.MaxInt8; n++ {
		for _, a := range some {
			for _, b := range some {
				checkStrip(t, impl.Strip{First: int8(n), Each: a, Bands: b})
				checkStrip(t, impl.Strip{First: a, Each: int8(n), Bands: b})
				checkStrip(t, impl.Strip{First: a, Each: b, Bands: int8(n)})
			}
		}
	}
}

func checkStrip(t *testing.T, s impl.Strip) {
	t.Helper()
	lights, code := impl.LightsOf(s)
	text := impl.StripText(s)
	if valid := isStrip(s); impl.ValidStrip(s) != valid || (code == impl.OK) != valid || (text != "") != valid {
		t.Fatalf("%v: that it is valid is %v, but got %v, %v %d and %q", s, valid, impl.ValidStrip(s), lights, code, text)
	}
}

// TestPromise1LastBands has for each First and Each as many bands as there can be, and one more.
func TestPromise1LastBands(t *testing.T) {
	for first := int64(0); first <= 36; first++ {
		for each := int64(1); each <= 9; each++ {
			most := int64(1)
			for most < 20 && first+each*most <= 36 {
				most++
			}
			for bands := int64(0); bands <= 22; bands++ {
				s := impl.Strip{First: int8(first), Each: int8(each), Bands: int8(bands)}
				same(t, "ValidStrip", impl.ValidStrip(s), bands >= 1 && bands <= most)
			}
		}
	}
}

// numberCall calls a function with a number, which has to be low to high, and with a paper or none.
type numberCall struct {
	low, high int64
	call      func(paper impl.Curve, n int64) outcome
}

// callsOfGrades are the functions with papers, each one with a number for one of its arguments.
func callsOfGrades() map[string]numberCall {
	two := func(paper impl.Curve) []impl.Curve { return []impl.Curve{examplePaper(), paper} }
	return map[string]numberCall{
		"BandsOf": {0, 400, func(p impl.Curve, n int64) outcome { return outcomeOf(impl.BandsOf(exampleStrip(), p, n)) }},
		"CoveredBands": {0, 400, func(p impl.Curve, n int64) outcome {
			return outcomeOf(impl.CoveredBands(exampleStrip(), p, n))
		}},
		"LightByStrips density": {0, 400, func(p impl.Curve, n int64) outcome { return outcomeOf(impl.LightByStrips(p, n, 9)) }},
		"LightByStrips target":  {0, 400, func(p impl.Curve, n int64) outcome { return outcomeOf(impl.LightByStrips(p, 9, n)) }},
		"ScaleOf light":         {0, 399, func(p impl.Curve, n int64) outcome { return outcomeOf(impl.ScaleOf(p, n, 400)) }},
		"ScaleOf dark":          {1, 400, func(p impl.Curve, n int64) outcome { return outcomeOf(impl.ScaleOf(p, 0, n)) }},
		"ScaleOf light to 90":   {0, 89, func(p impl.Curve, n int64) outcome { return outcomeOf(impl.ScaleOf(p, n, 90)) }},
		"ScaleOf dark from 10":  {11, 400, func(p impl.Curve, n int64) outcome { return outcomeOf(impl.ScaleOf(p, 10, n)) }},
		"MisfitOf thin":         {0, 400, func(p impl.Curve, n int64) outcome { return outcomeOf(impl.MisfitOf(p, n, 400, 9, 9)) }},
		"MisfitOf thin to 60":   {0, 60, func(p impl.Curve, n int64) outcome { return outcomeOf(impl.MisfitOf(p, n, 60, 9, 9)) }},
		"MisfitOf thick":        {0, 400, func(p impl.Curve, n int64) outcome { return outcomeOf(impl.MisfitOf(p, 0, n, 9, 9)) }},
		"MisfitOf thick of 20":  {20, 400, func(p impl.Curve, n int64) outcome { return outcomeOf(impl.MisfitOf(p, 20, n, 9, 9)) }},
		"MisfitOf dark":         {0, 400, func(p impl.Curve, n int64) outcome { return outcomeOf(impl.MisfitOf(p, 20, 60, n, 9)) }},
		"MisfitOf light":        {0, 400, func(p impl.Curve, n int64) outcome { return outcomeOf(impl.MisfitOf(p, 20, 60, 9, n)) }},
		"BestGrade thin":        {0, 400, func(p impl.Curve, n int64) outcome { return outcomeOf(impl.BestGrade(two(p), n, 400, 9, 9)) }},
		"BestGrade thin to 60":  {0, 60, func(p impl.Curve, n int64) outcome { return outcomeOf(impl.BestGrade(two(p), n, 60, 9, 9)) }},
		"BestGrade thick":       {0, 400, func(p impl.Curve, n int64) outcome { return outcomeOf(impl.BestGrade(two(p), 0, n, 9, 9)) }},
		"BestGrade thick of 20": {20, 400, func(p impl.Curve, n int64) outcome { return outcomeOf(impl.BestGrade(two(p), 20, n, 9, 9)) }},
		"BestGrade dark":        {0, 400, func(p impl.Curve, n int64) outcome { return outcomeOf(impl.BestGrade(two(p), 20, 60, n, 9)) }},
		"BestGrade light":       {0, 400, func(p impl.Curve, n int64) outcome { return outcomeOf(impl.BestGrade(two(p), 20, 60, 9, n)) }},
		"OrderGrades light":     {0, 399, func(p impl.Curve, n int64) outcome { return outcomeOf(impl.OrderGrades(two(p), n, 400)) }},
		"OrderGrades dark":      {1, 400, func(p impl.Curve, n int64) outcome { return outcomeOf(impl.OrderGrades(two(p), 0, n)) }},
		"OrderGrades light to 90": {0, 89, func(p impl.Curve, n int64) outcome {
			return outcomeOf(impl.OrderGrades(two(p), n, 90))
		}},
		"ConvertLight from": {0, 36, func(p impl.Curve, n int64) outcome { return outcomeOf(impl.ConvertLight(p, examplePaper(), n)) }},
		"ConvertLight to":   {0, 36, func(p impl.Curve, n int64) outcome { return outcomeOf(impl.ConvertLight(examplePaper(), p, n)) }},
		"BlackTime":         {0, 400, func(p impl.Curve, n int64) outcome { return outcomeOf(impl.BlackTime(p, n)) }},
	}
}

// callsOfBands are the functions without papers.
func callsOfBands() map[string]numberCall {
	return map[string]numberCall{
		"NearestBand target": {0, 400, func(_ impl.Curve, n int64) outcome { return outcomeOf(impl.NearestBand([]int64{50, 60}, n)) }},
		"NearestBand first":  {0, 400, func(_ impl.Curve, n int64) outcome { return outcomeOf(impl.NearestBand([]int64{n, 50}, 50)) }},
		"NearestBand last":   {0, 400, func(_ impl.Curve, n int64) outcome { return outcomeOf(impl.NearestBand([]int64{50, n}, 50)) }},
		"FirstBand target":   {0, 400, func(_ impl.Curve, n int64) outcome { return outcomeOf(impl.FirstBand([]int64{50, 60}, n)) }},
		"FirstBand first":    {0, 400, func(_ impl.Curve, n int64) outcome { return outcomeOf(impl.FirstBand([]int64{n, 50}, 50)) }},
		"FirstBand last":     {0, 400, func(_ impl.Curve, n int64) outcome { return outcomeOf(impl.FirstBand([]int64{50, n}, 50)) }},
		"FirstBand alone":    {0, 400, func(_ impl.Curve, n int64) outcome { return outcomeOf(impl.FirstBand([]int64{n}, 400)) }},
		"FinerStrip":         {0, 3, func(_ impl.Curve, n int64) outcome { return outcomeOf(impl.FinerStrip(exampleStrip(), n)) }},
	}
}

// stripEdges are limits of the chapter, their neighbours, and numbers that wrap around to small ones.
func stripEdges() []int64 {
	return append(append(edgeNumbers(), edgePlaces()...), -1<<62, -1<<53, 1<<32+50, 12, 19, 59, 60, 61, 88, 89, 90, 91, 1<<62, 1<<63-50)
}

func TestPromise1StripRanges(t *testing.T) {
	calls := callsOfGrades()
	maps.Copy(calls, callsOfBands())
	for _, paper := range stripPapers(8) {
		for name, c := range calls {
			for _, n := range stripEdges() {
				got, fits := c.call(paper, n), n >= c.low && n <= c.high
				if fits == (got.code == impl.ErrRange) || got.code != impl.OK && !got.zero {
					t.Fatalf("%s %d of %v: got %s %d", name, n, paper, got.results, got.code)
				}
			}
		}
	}
}

// TestPromise1InvalidGrades gives numbers that are out of range as well, because ErrInvalid comes first.
func TestPromise1InvalidGrades(t *testing.T) {
	for which, bad := range invalidCurves() {
		for name, c := range callsOfGrades() {
			for _, n := range stripEdges() {
				wantOutcome(t, name+" "+which, c.call(bad, n), impl.ErrInvalid)
			}
		}
		for _, other := range []impl.Curve{examplePaper(), bad} {
			wantOutcome(t, which, outcomeOf(impl.ConvertTable(bad, other)), impl.ErrInvalid)
			wantOutcome(t, which, outcomeOf(impl.ConvertTable(other, bad)), impl.ErrInvalid)
			wantOutcome(t, which, outcomeOf(impl.ConvertLight(bad, other, 5)), impl.ErrInvalid)
			wantOutcome(t, which, outcomeOf(impl.ConvertLight(other, bad, 5)), impl.ErrInvalid)
		}
	}
}

// TestPromise1OneInvalidGrade has one such paper among others, as many as can be, or too many.
func TestPromise1OneInvalidGrade(t *testing.T) {
	for which, bad := range invalidCurves() {
		for count := range 9 {
			for place := range count + 1 {
				for _, other := range []impl.Curve{examplePaper(), unreached()} {
					grades := slices.Insert(slices.Repeat([]impl.Curve{other}, count), place, bad)
					for _, n := range []int64{9, 60, 61, -1, 401, math.MinInt64, math.MaxInt64} {
						wantOutcome(t, which, outcomeOf(impl.BestGrade(grades, n, 60, 100, 9)), impl.ErrInvalid)
						wantOutcome(t, which, outcomeOf(impl.BestGrade(grades, 9, 60, n, 9)), impl.ErrInvalid)
						wantOutcome(t, which, outcomeOf(impl.BestGrade(grades, 9, 60, 100, n)), impl.ErrInvalid)
						wantOutcome(t, which, outcomeOf(impl.OrderGrades(grades, n, 100)), impl.ErrInvalid)
						wantOutcome(t, which, outcomeOf(impl.OrderGrades(grades, 10, n)), impl.ErrInvalid)
					}
				}
			}
		}
	}
}

func TestPromise1InvalidStrips(t *testing.T) {
	for which, bad := range invalidStrips() {
		same(t, which, impl.ValidStrip(bad), false)
		same(t, which, impl.StripText(bad), "")
		wantOutcome(t, which, outcomeOf(impl.LightsOf(bad)), impl.ErrInvalid)
		wantOutcome(t, which, outcomeOf(impl.CoveredLights(bad)), impl.ErrInvalid)
		for _, n := range stripEdges() {
			wantOutcome(t, which, outcomeOf(impl.FinerStrip(bad, n)), impl.ErrInvalid)
			for _, paper := range []impl.Curve{examplePaper(), nil, {{X: 1, Y: 401}}} {
				wantOutcome(t, which, outcomeOf(impl.BandsOf(bad, paper, n)), impl.ErrInvalid)
				wantOutcome(t, which, outcomeOf(impl.CoveredBands(bad, paper, n)), impl.ErrInvalid)
			}
		}
	}
	for _, s := range allStrips() {
		same(t, "ValidStrip", impl.ValidStrip(s), true)
	}
}

// TestPromise1StripOrder has arguments with two errors, or more, of which the first one counts.
func TestPromise1StripOrder(t *testing.T) {
	never := unreached()
	for which, got := range map[string]outcome{
		"LightByStrips density, none found": outcomeOf(impl.LightByStrips(never, 401, 400)),
		"LightByStrips target, none found":  outcomeOf(impl.LightByStrips(never, 400, 401)),
		"ScaleOf light, none found":         outcomeOf(impl.ScaleOf(never, -1, 400)),
		"ScaleOf dark, none found":          outcomeOf(impl.ScaleOf(never, 10, 401)),
		"ScaleOf equal, none found":         outcomeOf(impl.ScaleOf(never, 300, 300)),
		"ScaleOf light greater, none found": outcomeOf(impl.ScaleOf(never, 301, 300)),
		"MisfitOf thin, none found":         outcomeOf(impl.MisfitOf(never, -1, 60, 400, 9)),
		"MisfitOf thick, none found":        outcomeOf(impl.MisfitOf(never, 20, 401, 400, 9)),
		"MisfitOf dark, none found":         outcomeOf(impl.MisfitOf(never, 20, 60, 401, 9)),
		"MisfitOf light, none found":        outcomeOf(impl.MisfitOf(never, 20, 60, 400, 401)),
		"MisfitOf thin greater, none found": outcomeOf(impl.MisfitOf(never, 61, 60, 400, 9)),
		"BestGrade thin, none found":        outcomeOf(impl.BestGrade([]impl.Curve{never}, -1, 60, 400, 9)),
		"BestGrade light, none found":       outcomeOf(impl.BestGrade([]impl.Curve{never}, 20, 60, 400, 401)),
		"BestGrade greater, none found":     outcomeOf(impl.BestGrade([]impl.Curve{never}, 61, 60, 400, 9)),
		"BestGrade seven, none found":       outcomeOf(impl.BestGrade(slices.Repeat([]impl.Curve{never}, 7), 20, 60, 400, 9)),
		"BestGrade none at all":             outcomeOf(impl.BestGrade(nil, 20, 60, 400, 9)),
		"BestGrade none at all, and thin":   outcomeOf(impl.BestGrade(nil, -1, 60, 400, 9)),
		"OrderGrades light, none found":     outcomeOf(impl.OrderGrades([]impl.Curve{never}, -1, 400)),
		"OrderGrades equal, none found":     outcomeOf(impl.OrderGrades([]impl.Curve{never}, 400, 400)),
		"OrderGrades equal, behind one":     outcomeOf(impl.OrderGrades([]impl.Curve{examplePaper(), never}, 100, 100)),
		"OrderGrades seven, none found":     outcomeOf(impl.OrderGrades(slices.Repeat([]impl.Curve{never}, 7), 0, 400)),
		"OrderGrades none at all":           outcomeOf(impl.OrderGrades(nil, 0, 400)),
		"OrderGrades none at all, and dark": outcomeOf(impl.OrderGrades(nil, 0, 401)),
		"ConvertLight, none found":          outcomeOf(impl.ConvertLight(impl.Curve{{X: 0, Y: 400}}, never, 37)),
		"BlackTime, none found":             outcomeOf(impl.BlackTime(never, 401)),
		"FirstBand target, none found":      outcomeOf(impl.FirstBand([]int64{50}, 401)),
		"FirstBand band behind none found":  outcomeOf(impl.FirstBand([]int64{50, 60, -1}, 70)),
		"FirstBand band behind the first":   outcomeOf(impl.FirstBand([]int64{50, 70, 401}, 70)),
		"FirstBand many, none found":        outcomeOf(impl.FirstBand(make([]int64, 21), 70)),
		"NearestBand band behind a near":    outcomeOf(impl.NearestBand([]int64{50, 70, 401}, 70)),
	} {
		wantOutcome(t, which, got, impl.ErrRange)
	}
	wantOutcome(t, "BestGrade", outcomeOf(impl.BestGrade([]impl.Curve{never}, 20, 60, 400, 9)), impl.ErrNotFound)
	wantOutcome(t, "OrderGrades", outcomeOf(impl.OrderGrades([]impl.Curve{never}, 0, 400)), impl.ErrNotFound)
}

// TestPromise1StripCounts has no bands and no papers, as many as can be, and more.
func TestPromise1StripCounts(t *testing.T) {
	for count := range 40 {
		bands := slices.Repeat([]int64{50}, count)
		checkRange(t, "NearestBand", outcomeOf(impl.NearestBand(bands, 50)), count >= 1 && count <= 20)
		checkRange(t, "FirstBand", outcomeOf(impl.FirstBand(bands, 50)), count >= 1 && count <= 20)
		grades := slices.Repeat([]impl.Curve{examplePaper()}, count)
		checkRange(t, "BestGrade", outcomeOf(impl.BestGrade(grades, 20, 60, 90, 40)), count >= 1 && count <= 6)
		checkRange(t, "OrderGrades", outcomeOf(impl.OrderGrades(grades, 10, 90)), count >= 1 && count <= 6)
	}
}

func TestPromise1StripsNilAndEmpty(t *testing.T) {
	for _, bands := range [][]int64{nil, {}, make([]int64, 3)[:0]} {
		wantOutcome(t, "NearestBand", outcomeOf(impl.NearestBand(bands, 0)), impl.ErrRange)
		wantOutcome(t, "FirstBand", outcomeOf(impl.FirstBand(bands, 0)), impl.ErrRange)
	}
	for _, grades := range [][]impl.Curve{nil, {}, make([]impl.Curve, 3)[:0]} {
		wantOutcome(t, "BestGrade", outcomeOf(impl.BestGrade(grades, 0, 0, 0, 0)), impl.ErrRange)
		wantOutcome(t, "OrderGrades", outcomeOf(impl.OrderGrades(grades, 0, 1)), impl.ErrRange)
	}
	for _, paper := range []impl.Curve{nil, {}, examplePaper()[:0]} {
		for name, c := range callsOfGrades() {
			wantOutcome(t, name, c.call(paper, 20), impl.ErrInvalid)
		}
	}
	wantOutcome(t, "ReadStrip", outcomeOf(impl.ReadStrip("")), impl.ErrSyntax)
}

// TestPromise1StripsHuge gives lists and texts with a million elements.
func TestPromise1StripsHuge(t *testing.T) {
	const million = 1000000
	bands := make([]int64, million)
	wantOutcome(t, "NearestBand", outcomeOf(impl.NearestBand(bands, 0)), impl.ErrRange)
	wantOutcome(t, "FirstBand", outcomeOf(impl.FirstBand(bands, 0)), impl.ErrRange)
	for name, c := range callsOfGrades() {
		wantOutcome(t, name, c.call(make(impl.Curve, million), 20), impl.ErrInvalid)
	}
	grades := slices.Repeat([]impl.Curve{examplePaper()}, million/2)
	wantOutcome(t, "BestGrade", outcomeOf(impl.BestGrade(grades, 20, 60, 90, 40)), impl.ErrRange)
	wantOutcome(t, "OrderGrades", outcomeOf(impl.OrderGrades(grades, 10, 90)), impl.ErrRange)
	grades[len(grades)-1] = nil
	wantOutcome(t, "BestGrade", outcomeOf(impl.BestGrade(grades, 20, 60, 90, 40)), impl.ErrInvalid)
	wantOutcome(t, "OrderGrades", outcomeOf(impl.OrderGrades(grades, 10, 90)), impl.ErrInvalid)
	for _, part := range []string{" ", "0", "1", "-", "6 ", "6 2 4 ", "6 2 4\n", "\x00", "\xff"} {
		text := strings.Repeat(part, million/len(part))
		for _, start := range []string{"", "6 ", "6 2", "6 2 ", "6 2 4", "6 2 4 "} {
			wantOutcome(t, "ReadStrip", outcomeOf(impl.ReadStrip(start+text)), impl.ErrSyntax)
		}
	}
}

// TestPromise1StripArguments: all arguments stay as they are, behind their ends too.
func TestPromise1StripArguments(t *testing.T) {
	lists := slices.AppendSeq(stripPapers(10), maps.Values(invalidCurves()))
	for _, list := range lists {
		for name, c := range callsOfGrades() {
			for _, n := range []int64{-1, 0, 5, 36, 60, 400} {
				paper, whole := marked(list)
				kept := slices.Clone(whole)
				c.call(paper, n)
				same(t, name, whole, kept)
			}
		}
		paper, whole := marked(list)
		other, wholeOther := marked(examplePaper())
		kept, keptOther := slices.Clone(whole), slices.Clone(wholeOther)
		impl.ConvertTable(paper, other)
		impl.ConvertTable(other, paper)
		same(t, "ConvertTable", whole, kept)
		same(t, "ConvertTable", wholeOther, keptOther)
	}
	bands := []int64{70, 60, 50, 80, 90, 60, -7, 401, 9}
	kept := slices.Clone(bands)
	for count := range bands {
		for target := int64(-1); target <= 401; target++ {
			impl.NearestBand(bands[:count], target)
			impl.FirstBand(bands[:count], target)
		}
	}
	same(t, "bands", bands, kept)
}

// TestPromise1GradeLists has lists of papers with unused capacity, and papers that would be left out or go to other places.
func TestPromise1GradeLists(t *testing.T) {
	for _, list := range someGrades(60) {
		whole := append(slices.Clone(list), unreached(), nil, fitting(9), impl.Curve{{X: 5, Y: 401}})
		kept := []impl.Curve{}
		for _, paper := range whole {
			kept = append(kept, slices.Clone(paper))
		}
		for count := range len(whole) + 1 {
			for _, w := range someWishes() {
				bestOf(whole[:count], w)
				impl.OrderGrades(whole[:count], w.light, w.dark)
			}
		}
		same(t, "grades", whole, kept)
	}
}

// TestPromise1StripResults changes each list that is returned, and all behind it, and calls again.
func TestPromise1StripResults(t *testing.T) {
	grades := []impl.Curve{scaled(0, 10), scaled(0, 20), scaled(5, 10)}
	for name, call := range map[string]func() ([]int64, int64){
		"LightsOf":      func() ([]int64, int64) { return impl.LightsOf(exampleStrip()) },
		"CoveredLights": func() ([]int64, int64) { return impl.CoveredLights(exampleStrip()) },
		"BandsOf":       func() ([]int64, int64) { return impl.BandsOf(exampleStrip(), grades[0], 20) },
		"CoveredBands":  func() ([]int64, int64) { return impl.CoveredBands(exampleStrip(), grades[0], 20) },
		"OrderGrades":   func() ([]int64, int64) { return impl.OrderGrades(grades, 10, 90) },
		"ConvertTable":  func() ([]int64, int64) { return impl.ConvertTable(grades[0], grades[1]) },
	} {
		list, code := call()
		if code != impl.OK || len(list) == 0 {
			t.Errorf("%s: got %v %d", name, list, code)
		}
		checkFresh(t, name, call, -77)
	}
	same(t, "grades", grades, []impl.Curve{scaled(0, 10), scaled(0, 20), scaled(5, 10)})
}

// TestPromise1StripsAgain calls with equal arguments, one after the other.
func TestPromise1StripsAgain(t *testing.T) {
	for _, paper := range stripPapers(30) {
		for name, c := range callsOfGrades() {
			for _, n := range []int64{0, 5, 20, 36, 59, 99, 400, 401} {
				first := c.call(slices.Clone(paper), n)
				same(t, name, c.call(paper, n), first)
			}
		}
	}
}

// TestPromise1GradesAgain: the papers are tried in any order, which must not be seen.
func TestPromise1GradesAgain(t *testing.T) {
	w := wish{0, 100, 100, 50}
	many := append(slices.Repeat([]impl.Curve{fitting(40), fitting(60)}, 2), unreached(), fitting(40))
	for range 3000 {
		wantNumbers(t, "BestGrade", bestOf(many, w), 0, 10, -10, impl.OK)
		wantNumbers(t, "BestGrade behind the first one", bestOf(many[1:], w), 0, 10, 10, impl.OK)
		wantNumbers(t, "BestGrade at the end", bestOf(many[4:], w), 1, 10, -10, impl.OK)
	}
}
