package tests

import (
	"slices"
	"testing"

	"loop.example/g01301/impl"
)

// scaleBy goes through all exposures there are.
func scaleBy(paper impl.Curve, light, dark int64) (int64, int64) {
	shades := densitiesBy(paper)
	begin, end := -1, -1
	for place, shade := range shades {
		if shade <= light {
			begin = place
		}
		if shade >= dark && end == -1 {
			end = place
		}
	}
	if begin == -1 || end == -1 {
		return 0, impl.ErrNotFound
	}
	return int64(end - begin), impl.OK
}

func somePairsOfDensities() [][2]int64 {
	pairs := [][2]int64{}
	for _, light := range []int64{0, 1, 7, 10, 33, 99, 100, 300, 398, 399} {
		for _, dark := range []int64{1, 2, 8, 33, 50, 90, 100, 101, 399, 400} {
			if light < dark {
				pairs = append(pairs, [2]int64{light, dark})
			}
		}
	}
	return pairs
}

func TestScales(t *testing.T) {
	for _, paper := range append(someCurves(30), stripPapers(30)...) {
		for _, pair := range somePairsOfDensities() {
			want, wantCode := scaleBy(paper, pair[0], pair[1])
			wantNumbers(t, "ScaleOf", numbersOf(impl.ScaleOf(paper, pair[0], pair[1])), want, wantCode)
		}
	}
}

func TestScaleCases(t *testing.T) {
	flat, wide := impl.Curve{{X: 5, Y: 50}}, impl.Curve{{X: -200, Y: 0}, {X: 200, Y: 400}}
	first, last := impl.Curve{{X: -200, Y: 5}, {X: -199, Y: 90}}, impl.Curve{{X: 199, Y: 5}, {X: 200, Y: 90}}
	for _, c := range []struct {
		paper       impl.Curve
		light, dark int64
		want, code  int64
		whyThatOne  string
	}{
		{examplePaper(), 10, 90, 8, impl.OK, "the example"},
		{examplePaper(), 11, 90, 8, impl.OK, "just darker than an exposure"},
		{examplePaper(), 9, 90, 9, impl.OK, "just lighter than an exposure"},
		{examplePaper(), 10, 91, 9, impl.OK, "just darker at the end"},
		{examplePaper(), 0, 1, 1, impl.OK, "the least densities"},
		{examplePaper(), 0, 100, 10, impl.OK, "all that it has"},
		{examplePaper(), 99, 100, 1, impl.OK, "the last exposure alone"},
		{examplePaper(), 10, 101, 0, impl.ErrNotFound, "never as dark"},
		{examplePaper(), 100, 101, 0, impl.ErrNotFound, "never as dark, nor darker than light"},
		{examplePaper(), 399, 400, 0, impl.ErrNotFound, "never as dark as can be"},
		{flat, 10, 90, 0, impl.ErrNotFound, "a flat paper between both"},
		{flat, 50, 51, 0, impl.ErrNotFound, "a flat paper, as light as asked"},
		{flat, 49, 50, 0, impl.ErrNotFound, "a flat paper, as dark as asked"},
		{flat, 0, 49, 0, impl.ErrNotFound, "a flat paper, darker than both"},
		{flat, 51, 90, 0, impl.ErrNotFound, "a flat paper, lighter than both"},
		{wide, 0, 400, 400, impl.OK, "all exposures"},
		{wide, 0, 1, 1, impl.OK, "the first exposures"},
		{wide, 399, 400, 1, impl.OK, "the last exposures"},
		{first, 5, 90, 1, impl.OK, "the first exposure is light"},
		{first, 4, 90, 0, impl.ErrNotFound, "the first exposure is not light"},
		{first, 89, 90, 1, impl.OK, "the first exposure is light enough"},
		{last, 5, 90, 1, impl.OK, "the last exposure is dark"},
		{last, 5, 91, 0, impl.ErrNotFound, "the last exposure is not dark"},
		{exampleCurve(), 40, 41, 1, impl.OK, "behind a flat part"},
		{exampleCurve(), 39, 40, 1, impl.OK, "ahead of a flat part"},
		{exampleCurve(), 39, 41, 8, impl.OK, "over a flat part"},
		{exampleCurve(), 9, 41, 0, impl.ErrNotFound, "never as light"},
		{examplePaper(), 50, 50, 0, impl.ErrRange, "light and dark are equal"},
		{examplePaper(), 51, 50, 0, impl.ErrRange, "light is darker than dark"},
		{examplePaper(), 400, 400, 0, impl.ErrRange, "both as dark as can be"},
		{examplePaper(), -1, 50, 0, impl.ErrRange, "less than 0"},
		{examplePaper(), 0, 401, 0, impl.ErrRange, "too dark"},
	} {
		wantNumbers(t, c.whyThatOne, numbersOf(impl.ScaleOf(c.paper, c.light, c.dark)), c.want, c.code)
	}
}

// orderBy takes the first one with the greatest scale out of those that are left, again and again.
func orderBy(grades []impl.Curve, light, dark int64) ([]int64, int64) {
	scales := []int64{}
	for _, paper := range grades {
		scale, code := scaleBy(paper, light, dark)
		if code != impl.OK {
			return nil, code
		}
		scales = append(scales, scale)
	}
	order := []int64{}
	for range scales {
		first := slices.Index(scales, slices.Max(scales))
		order, scales[first] = append(order, int64(first)), -1
	}
	return order, impl.OK
}

func TestOrders(t *testing.T) {
	found := 0
	for _, grades := range someGrades(600) {
		for _, pair := range [][2]int64{{10, 90}, {0, 50}, {20, 30}, {29, 30}, {0, 1}, {100, 300}} {
			want, wantCode := orderBy(grades, pair[0], pair[1])
			order, code := impl.OrderGrades(grades, pair[0], pair[1])
			wantList(t, "OrderGrades", order, code, want, wantCode)
			if code == impl.OK && len(order) > 2 {
				found++
			}
		}
	}
	if found < 100 {
		t.Errorf("only %d lists are ordered", found)
	}
}

func TestOrderCases(t *testing.T) {
	for _, c := range []struct {
		grades     []impl.Curve
		want       []int64
		code       int64
		whyThatOne string
	}{
		{[]impl.Curve{scaled(0, 10), scaled(0, 20)}, []int64{1, 0}, impl.OK, "the softer one first"},
		{[]impl.Curve{scaled(0, 20), scaled(0, 10)}, []int64{0, 1}, impl.OK, "the softer one is the first one"},
		{[]impl.Curve{scaled(0, 10), scaled(5, 10), scaled(-7, 10)}, []int64{0, 1, 2}, impl.OK, "all equally soft"},
		{[]impl.Curve{scaled(0, 10), scaled(0, 20), scaled(5, 10), scaled(5, 20)}, []int64{1, 3, 0, 2}, impl.OK, "equally soft ones in their order"},
		{[]impl.Curve{scaled(0, 8), scaled(0, 9), scaled(0, 10), scaled(0, 11), scaled(0, 12), scaled(0, 13)}, []int64{5, 4, 3, 2, 1, 0}, impl.OK, "all the other way around"},
		{slices.Repeat([]impl.Curve{scaled(0, 8)}, 6), []int64{0, 1, 2, 3, 4, 5}, impl.OK, "the same one"},
		{[]impl.Curve{scaled(0, 30), scaled(0, 9), scaled(2, 30), scaled(0, 9), scaled(4, 30), scaled(0, 50)}, []int64{5, 0, 2, 4, 1, 3}, impl.OK, "three that are equally soft, and two"},
		{[]impl.Curve{scaled(-200, 400)}, []int64{0}, impl.OK, "one alone"},
		{[]impl.Curve{{{X: 0, Y: 50}}}, nil, impl.ErrNotFound, "one that is flat"},
		{[]impl.Curve{scaled(0, 10), scaled(0, 20), unreached()}, nil, impl.ErrNotFound, "the last one is never as dark"},
		{[]impl.Curve{unreached(), scaled(0, 10), scaled(0, 20)}, nil, impl.ErrNotFound, "the first one is never as dark"},
		{[]impl.Curve{scaled(0, 10), {{X: 0, Y: 1}, {X: 9, Y: 100}}, scaled(0, 20)}, nil, impl.ErrNotFound, "one is never as light"},
	} {
		order, code := impl.OrderGrades(c.grades, 0, 100)
		wantList(t, c.whyThatOne, order, code, c.want, c.code)
	}
}

// TestConverted has all lights between all papers.
func TestConverted(t *testing.T) {
	papers := stripPapers(20)
	for _, from := range papers {
		for _, to := range papers {
			table, code := impl.ConvertTable(from, to)
			want := []int64{}
			for light := int64(0); light <= 36; light++ {
				least := leastLightBy(to, 0, shadeBy(from, 0, light))
				want = append(want, least)
				if least == -1 {
					wantNumbers(t, "ConvertLight", numbersOf(impl.ConvertLight(from, to, light)), 0, impl.ErrNotFound)
					continue
				}
				wantNumbers(t, "ConvertLight", numbersOf(impl.ConvertLight(from, to, light)), least, impl.OK)
			}
			wantList(t, "ConvertTable", table, code, want, impl.OK)
		}
	}
}

// TestConvertedToItself needs no more light, and makes the paper as dark.
func TestConvertedToItself(t *testing.T) {
	for _, paper := range append(stripPapers(40), someCurves(40)...) {
		table, _ := impl.ConvertTable(paper, paper)
		same(t, "the length of ConvertTable", len(table), 37)
		for light := int64(0); light <= 36; light++ {
			own, code := impl.ConvertLight(paper, paper, light)
			if code != impl.OK || own < 0 || own > light || table[light] != own || bandAt(t, paper, 0, own) != bandAt(t, paper, 0, light) {
				t.Fatalf("%v %d: got %d %d, and in the table %d", paper, light, own, code, table[light])
			}
		}
	}
}

func TestConvertCases(t *testing.T) {
	soft, strong := scaled(0, 20), impl.Curve{{X: 0, Y: 0}, {X: 10, Y: 200}}
	early, last := scaled(-10, 10), impl.Curve{{X: 35, Y: 0}, {X: 36, Y: 100}}
	for _, c := range []struct {
		from, to          impl.Curve
		light, want, code int64
		whyThatOne        string
	}{
		{examplePaper(), soft, 5, 10, impl.OK, "to a softer one"},
		{soft, examplePaper(), 5, 3, impl.OK, "to a harder one, just more than needed"},
		{soft, examplePaper(), 4, 2, impl.OK, "to a harder one, just as needed"},
		{soft, examplePaper(), 0, 0, impl.OK, "the least light"},
		{soft, examplePaper(), 36, 10, impl.OK, "the most light"},
		{examplePaper(), examplePaper(), 20, 10, impl.OK, "to itself, with more than needed"},
		{examplePaper(), examplePaper(), 5, 5, impl.OK, "to itself"},
		{early, examplePaper(), 0, 10, impl.OK, "as dark as can be without light"},
		{examplePaper(), early, 10, 0, impl.OK, "to one that needs none"},
		{strong, examplePaper(), 5, 10, impl.OK, "the darkest that can be"},
		{strong, examplePaper(), 6, 0, impl.ErrNotFound, "just darker than can be"},
		{strong, examplePaper(), 36, 0, impl.ErrNotFound, "never as dark"},
		{examplePaper(), last, 1, 36, impl.OK, "to the most light"},
		{examplePaper(), scaled(36, 1), 1, 0, impl.ErrNotFound, "to more than the most light"},
		{examplePaper(), scaled(36, 1), 0, 0, impl.OK, "nothing to more than the most light"},
		{examplePaper(), soft, -1, 0, impl.ErrRange, "less than no light"},
		{examplePaper(), soft, 37, 0, impl.ErrRange, "more than the most light"},
		{strong, examplePaper(), 37, 0, impl.ErrRange, "more than the most light, and never as dark"},
	} {
		wantNumbers(t, c.whyThatOne, numbersOf(impl.ConvertLight(c.from, c.to, c.light)), c.want, c.code)
	}
}

func TestConvertTableCases(t *testing.T) {
	strong := impl.Curve{{X: 0, Y: 0}, {X: 10, Y: 200}}
	table, code := impl.ConvertTable(strong, examplePaper())
	wantList(t, "from a stronger one", table, code, append([]int64{0, 2, 4, 6, 8, 10}, slices.Repeat([]int64{-1}, 31)...), impl.OK)
	table, code = impl.ConvertTable(scaled(0, 20), examplePaper())
	want := append([]int64{0, 1, 1, 2, 2, 3, 3, 4, 4, 5, 5, 6, 6, 7, 7, 8, 8, 9, 9}, slices.Repeat([]int64{10}, 18)...)
	wantList(t, "from a softer one", table, code, want, impl.OK)
	table, code = impl.ConvertTable(impl.Curve{{X: 0, Y: 400}}, examplePaper())
	wantList(t, "nothing is as dark", table, code, slices.Repeat([]int64{-1}, 37), impl.OK)
	table, code = impl.ConvertTable(scaled(36, 1), examplePaper())
	wantList(t, "nothing is needed", table, code, make([]int64, 37), impl.OK)
}

func TestBlackTimes(t *testing.T) {
	for _, paper := range append(stripPapers(40), someCurves(40)...) {
		black := shadeBy(paper, 0, 36)
		for base := int64(0); base <= 400; base++ {
			want, wantCode := leastLightBy(paper, base, black), int64(impl.OK)
			if want == -1 {
				want, wantCode = 0, impl.ErrNotFound
			}
			wantNumbers(t, "BlackTime", numbersOf(impl.BlackTime(paper, base)), want, wantCode)
		}
	}
}

func TestBlackCases(t *testing.T) {
	rising, later := impl.Curve{{X: 0, Y: 0}, {X: 36, Y: 360}}, impl.Curve{{X: 0, Y: 0}, {X: 100, Y: 100}}
	for _, c := range []struct {
		paper            impl.Curve
		base, want, code int64
		whyThatOne       string
	}{
		{examplePaper(), 20, 12, impl.OK, "clear film"},
		{examplePaper(), 0, 10, impl.OK, "no film"},
		{examplePaper(), 4, 10, impl.OK, "just before a half"},
		{examplePaper(), 5, 11, impl.OK, "a half"},
		{examplePaper(), 264, 36, impl.OK, "the most light"},
		{examplePaper(), 265, 0, impl.ErrNotFound, "more than the most light"},
		{examplePaper(), 400, 0, impl.ErrNotFound, "the most film"},
		{impl.Curve{{X: 5, Y: 33}}, 400, 0, impl.OK, "a flat paper"},
		{rising, 0, 36, impl.OK, "a paper that is darkest with the most light"},
		{rising, 4, 36, impl.OK, "a paper that is darkest with the most light, just before a half"},
		{rising, 5, 0, impl.ErrNotFound, "a paper that is darkest with the most light, and a half"},
		{later, 0, 36, impl.OK, "a paper that would be darker with more than the most light"},
		{later, 5, 0, impl.ErrNotFound, "a paper that would be darker, and a half"},
		{scaled(36, 1), 400, 0, impl.OK, "a paper that is never dark"},
		{scaled(36, 1), 0, 0, impl.OK, "a paper that is never dark, without a film"},
		{scaled(35, 1), 0, 36, impl.OK, "a paper that is dark with the most light alone"},
		{examplePaper(), -1, 0, impl.ErrRange, "less than no film"},
		{examplePaper(), 401, 0, impl.ErrRange, "too much film"},
	} {
		wantNumbers(t, c.whyThatOne, numbersOf(impl.BlackTime(c.paper, c.base)), c.want, c.code)
	}
}
