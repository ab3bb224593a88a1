package tests

import (
	"math"
	"math/rand"
	"slices"
	"testing"

	"loop.example/g01301/impl"
)

// TestLightsOfStrips has all strips there are.
func TestLightsOfStrips(t *testing.T) {
	for _, s := range allStrips() {
		lights, code := impl.LightsOf(s)
		wantList(t, "LightsOf", lights, code, lightsBy(s), impl.OK)
		covered, code := impl.CoveredLights(s)
		wantList(t, "CoveredLights", covered, code, coveredBy(s), impl.OK)
	}
}

func TestLightCases(t *testing.T) {
	for _, c := range []struct {
		s               impl.Strip
		lights, covered []int64
		whyThatOne      string
	}{
		{impl.Strip{First: 6, Each: 2, Bands: 4}, []int64{6, 8, 10, 12}, []int64{6, 10, 13, 15}, "the example"},
		{impl.Strip{First: 0, Each: 1, Bands: 1}, []int64{0}, []int64{0}, "the least"},
		{impl.Strip{First: 36, Each: 9, Bands: 1}, []int64{36}, []int64{36}, "one band with the most light"},
		{impl.Strip{First: 0, Each: 9, Bands: 5}, []int64{0, 9, 18, 27, 36}, []int64{0, 9, 18, 27, 36}, "nine thirds each"},
		{impl.Strip{First: 0, Each: 3, Bands: 3}, []int64{0, 3, 6}, []int64{0, 4, 8}, "3000, which are just less than 5 thirds, and 7000"},
		{impl.Strip{First: 33, Each: 3, Bands: 2}, []int64{33, 36}, []int64{33, 36}, "more than any light has"},
		{impl.Strip{First: 34, Each: 1, Bands: 3}, []int64{34, 35, 36}, []int64{34, 36, 36}, "more than any light has, twice"},
		{impl.Strip{First: 0, Each: 1, Bands: 2}, []int64{0, 1}, []int64{0, 3}, "2260"},
		{
			impl.Strip{First: 17, Each: 1, Bands: 20},
			[]int64{17, 18, 19, 20, 21, 22, 23, 24, 25, 26, 27, 28, 29, 30, 31, 32, 33, 34, 35, 36},
			[]int64{17, 20, 22, 24, 26, 27, 28, 30, 31, 32, 33, 34, 35, 36, 36, 36, 36, 36, 36, 36}, "the most bands, up to the most light",
		},
	} {
		lights, code := impl.LightsOf(c.s)
		wantList(t, c.whyThatOne, lights, code, c.lights, impl.OK)
		covered, code := impl.CoveredLights(c.s)
		wantList(t, c.whyThatOne, covered, code, c.covered, impl.OK)
	}
}

// TestBandsOfStrips also holds that bands with more light are never lighter.
func TestBandsOfStrips(t *testing.T) {
	papers := stripPapers(10)
	for i, s := range allStrips() {
		for k, density := range edgeDensities() {
			if (i+k)%5 > 0 {
				continue
			}
			paper := papers[(i+3*k)%len(papers)]
			bands, code := impl.BandsOf(s, paper, density)
			wantList(t, "BandsOf", bands, code, shadesBy(paper, density, lightsBy(s)), impl.OK)
			covered, code := impl.CoveredBands(s, paper, density)
			wantList(t, "CoveredBands", covered, code, shadesBy(paper, density, coveredBy(s)), impl.OK)
			if !slices.IsSorted(bands) || !slices.IsSorted(covered) {
				t.Fatalf("%v %v %d: %v or %v becomes lighter", s, paper, density, bands, covered)
			}
			for band, shade := range covered {
				if shade < bands[band] {
					t.Fatalf("%v %v %d: %v is lighter than %v", s, paper, density, covered, bands)
				}
			}
		}
	}
}

func TestBandCases(t *testing.T) {
	ends := impl.Curve{{X: -40, Y: 1}, {X: -39, Y: 9}, {X: 35, Y: 300}, {X: 36, Y: 350}}
	for _, c := range []struct {
		s              impl.Strip
		paper          impl.Curve
		density        int64
		bands, covered []int64
		whyThatOne     string
	}{
		{exampleStrip(), examplePaper(), 20, []int64{40, 60, 80, 100}, []int64{40, 80, 100, 100}, "the example"},
		{exampleStrip(), examplePaper(), 24, []int64{40, 60, 80, 100}, []int64{40, 80, 100, 100}, "just less than a half more"},
		{exampleStrip(), examplePaper(), 25, []int64{30, 50, 70, 90}, []int64{30, 70, 100, 100}, "a half, which goes up"},
		{exampleStrip(), examplePaper(), 15, []int64{40, 60, 80, 100}, []int64{40, 80, 100, 100}, "a half that goes up to the example"},
		{exampleStrip(), examplePaper(), 5, []int64{50, 70, 90, 100}, []int64{50, 90, 100, 100}, "the least half"},
		{exampleStrip(), examplePaper(), 4, []int64{60, 80, 100, 100}, []int64{60, 100, 100, 100}, "nothing held back"},
		{exampleStrip(), examplePaper(), 400, []int64{0, 0, 0, 0}, []int64{0, 0, 0, 0}, "all held back"},
		{impl.Strip{First: 0, Each: 9, Bands: 5}, ends, 400, []int64{1, 40, 75, 111, 146}, []int64{1, 40, 75, 111, 146}, "the most held back"},
		{impl.Strip{First: 0, Each: 9, Bands: 5}, ends, 394, []int64{9, 44, 79, 115, 150}, []int64{9, 44, 79, 115, 150}, "less held back"},
		{impl.Strip{First: 35, Each: 1, Bands: 2}, ends, 0, []int64{300, 350}, []int64{300, 350}, "the most light, and just less"},
		{impl.Strip{First: 34, Each: 1, Bands: 2}, ends, 0, []int64{296, 300}, []int64{296, 350}, "covered, the most light"},
		{impl.Strip{First: 0, Each: 1, Bands: 1}, examplePaper(), 0, []int64{0}, []int64{0}, "the least strip"},
	} {
		bands, code := impl.BandsOf(c.s, c.paper, c.density)
		wantList(t, c.whyThatOne, bands, code, c.bands, impl.OK)
		covered, code := impl.CoveredBands(c.s, c.paper, c.density)
		wantList(t, c.whyThatOne, covered, code, c.covered, impl.OK)
	}
}

// someBands are lists of densities in any order, close to each other or far apart.
func someBands(count int) [][]int64 {
	numbers := rand.New(rand.NewSource(17))
	lists := [][]int64{}
	for range count {
		list, low, width := []int64{}, numbers.Int63n(391), 1+numbers.Int63n(401)
		for range 1 + numbers.Intn(impl.MaxBands) {
			list = append(list, min(low+numbers.Int63n(width), 400))
		}
		lists = append(lists, list)
	}
	return lists
}

// TestNearestBands holds the band against each other one: it is as near, and nearer than those before it.
func TestNearestBands(t *testing.T) {
	for _, bands := range someBands(600) {
		for target := int64(0); target <= 400; target += 3 {
			found, off, code := impl.NearestBand(bands, target)
			if code != impl.OK || found < 0 || found >= int64(len(bands)) || off != bands[found]-target {
				t.Fatalf("NearestBand %v %d: got %d %d %d", bands, target, found, off, code)
			}
			size := max(off, -off)
			for i, density := range bands {
				other := max(density-target, target-density)
				if other < size || other == size && int64(i) < found {
					t.Fatalf("NearestBand %v %d: got %d by %d, but %d is nearer, or as near and first", bands, target, found, off, i)
				}
			}
		}
	}
}

func TestNearestBandCases(t *testing.T) {
	for _, c := range []struct {
		bands      []int64
		target     int64
		want, off  int64
		whyThatOne string
	}{
		{[]int64{40, 60, 80, 100}, 65, 1, -5, "the example"},
		{[]int64{40, 60, 80, 100}, 70, 1, -10, "below and above, equally near"},
		{[]int64{100, 80, 60, 40}, 70, 1, 10, "above and below, equally near"},
		{[]int64{40, 60, 80, 100}, 71, 2, 9, "above and nearer"},
		{[]int64{40, 60, 60, 60}, 60, 1, 0, "the first one of equal ones"},
		{[]int64{40, 60, 60, 60}, 400, 1, -340, "the first one of equal ones, from far"},
		{[]int64{60, 60, 60, 40}, 400, 0, -340, "the first one of all"},
		{[]int64{61, 59, 60}, 60, 2, 0, "the last one alone"},
		{[]int64{61, 59, 61}, 60, 0, 1, "all equally near"},
		{[]int64{59, 61, 59}, 60, 0, -1, "all equally near, from below"},
		{[]int64{0, 400}, 200, 0, -200, "in the middle of all"},
		{[]int64{400, 0}, 200, 0, 200, "in the middle of all, from above"},
		{[]int64{0}, 400, 0, -400, "one band, as far as can be"},
		{[]int64{400}, 0, 0, 400, "one band, as far as can be, from above"},
		{slices.Repeat([]int64{7}, 20), 7, 0, 0, "the most bands"},
		{append(slices.Repeat([]int64{5}, 19), 6), 7, 19, -1, "the last one of the most bands"},
	} {
		wantNumbers(t, c.whyThatOne, numbersOf(impl.NearestBand(c.bands, c.target)), c.want, c.off, impl.OK)
	}
}

func TestFirstBands(t *testing.T) {
	for _, bands := range someBands(600) {
		for target := int64(0); target <= 400; target += 3 {
			want, wantCode := int64(0), int64(impl.ErrNotFound)
			for i := len(bands) - 1; i >= 0; i-- {
				if bands[i] >= target {
					want, wantCode = int64(i), impl.OK
				}
			}
			wantNumbers(t, "FirstBand", numbersOf(impl.FirstBand(bands, target)), want, wantCode)
		}
	}
}

func TestFirstBandCases(t *testing.T) {
	for _, c := range []struct {
		bands      []int64
		target     int64
		want, code int64
		whyThatOne string
	}{
		{[]int64{40, 60, 80, 100}, 65, 2, impl.OK, "the example"},
		{[]int64{40, 60, 80, 100}, 60, 1, impl.OK, "just the target"},
		{[]int64{40, 60, 80, 100}, 61, 2, impl.OK, "just more than a band"},
		{[]int64{40, 60, 80, 100}, 0, 0, impl.OK, "no target"},
		{[]int64{40, 60, 80, 100}, 100, 3, impl.OK, "the last one"},
		{[]int64{40, 60, 80, 100}, 101, 0, impl.ErrNotFound, "more than the last one"},
		{[]int64{40, 100, 60, 100}, 70, 1, impl.OK, "the first one of two"},
		{[]int64{100, 60, 40}, 50, 0, impl.OK, "falling bands"},
		{[]int64{40, 40, 40}, 40, 0, impl.OK, "equal bands"},
		{[]int64{0}, 0, 0, impl.OK, "the least"},
		{[]int64{399}, 400, 0, impl.ErrNotFound, "just less than the most"},
		{[]int64{399, 400}, 400, 1, impl.OK, "the most"},
		{append(make([]int64, 19), 1), 1, 19, impl.OK, "the last one of the most bands"},
		{make([]int64, 20), 1, 0, impl.ErrNotFound, "none of the most bands"},
	} {
		wantNumbers(t, c.whyThatOne, numbersOf(impl.FirstBand(c.bands, c.target)), c.want, c.code)
	}
}

// TestFinerStrips has all strips and bands there are.
func TestFinerStrips(t *testing.T) {
	for _, s := range allStrips() {
		for band, light := range lightsBy(s) {
			first := light
			for less := int8(1); less < s.Each && first > 0; less++ {
				first--
			}
			want := impl.Strip{First: int8(first), Each: 1, Bands: s.Bands}
			for !isStrip(want) {
				want.Bands--
			}
			finer, code := impl.FinerStrip(s, int64(band))
			wantStrip(t, "FinerStrip", finer, code, want, impl.OK)
			if !impl.ValidStrip(finer) {
				t.Fatalf("FinerStrip %v %d: %v is not valid", s, band, finer)
			}
		}
	}
}

func TestFinerStripCases(t *testing.T) {
	for _, c := range []struct {
		s          impl.Strip
		band       int64
		want       impl.Strip
		code       int64
		whyThatOne string
	}{
		{exampleStrip(), 1, impl.Strip{First: 7, Each: 1, Bands: 4}, impl.OK, "the example"},
		{exampleStrip(), 0, impl.Strip{First: 5, Each: 1, Bands: 4}, impl.OK, "ahead of the strip"},
		{impl.Strip{First: 0, Each: 9, Bands: 5}, 0, impl.Strip{First: 0, Each: 1, Bands: 5}, impl.OK, "not before 0"},
		{impl.Strip{First: 7, Each: 9, Bands: 2}, 0, impl.Strip{First: 0, Each: 1, Bands: 2}, impl.OK, "just before 0"},
		{impl.Strip{First: 8, Each: 9, Bands: 2}, 0, impl.Strip{First: 0, Each: 1, Bands: 2}, impl.OK, "just at 0"},
		{impl.Strip{First: 9, Each: 9, Bands: 2}, 0, impl.Strip{First: 1, Each: 1, Bands: 2}, impl.OK, "just behind 0"},
		{impl.Strip{First: 9, Each: 9, Bands: 4}, 3, impl.Strip{First: 28, Each: 1, Bands: 4}, impl.OK, "the last band"},
		{impl.Strip{First: 36, Each: 1, Bands: 1}, 0, impl.Strip{First: 36, Each: 1, Bands: 1}, impl.OK, "as it is"},
		{impl.Strip{First: 36, Each: 9, Bands: 1}, 0, impl.Strip{First: 28, Each: 1, Bands: 1}, impl.OK, "one band, which is lighter"},
		{impl.Strip{First: 17, Each: 1, Bands: 20}, 0, impl.Strip{First: 17, Each: 1, Bands: 20}, impl.OK, "the most bands, which just fit"},
		{impl.Strip{First: 17, Each: 1, Bands: 20}, 1, impl.Strip{First: 18, Each: 1, Bands: 19}, impl.OK, "one band too many"},
		{impl.Strip{First: 17, Each: 1, Bands: 20}, 19, impl.Strip{First: 36, Each: 1, Bands: 1}, impl.OK, "one band alone that can be"},
		{impl.Strip{First: 0, Each: 2, Bands: 19}, 9, impl.Strip{First: 17, Each: 1, Bands: 19}, impl.OK, "just ahead of the most light"},
		{impl.Strip{First: 0, Each: 2, Bands: 19}, 10, impl.Strip{First: 19, Each: 1, Bands: 18}, impl.OK, "one band less, up to the most light"},
		{impl.Strip{First: 0, Each: 2, Bands: 19}, 18, impl.Strip{First: 35, Each: 1, Bands: 2}, impl.OK, "two bands that can be"},
		{exampleStrip(), 3, impl.Strip{First: 11, Each: 1, Bands: 4}, impl.OK, "the last band there is"},
		{exampleStrip(), 4, impl.Strip{}, impl.ErrRange, "no such band"},
		{exampleStrip(), -1, impl.Strip{}, impl.ErrRange, "no such band before"},
		{exampleStrip(), 256, impl.Strip{}, impl.ErrRange, "what wraps to the first band"},
		{exampleStrip(), 1 << 32, impl.Strip{}, impl.ErrRange, "what wraps to the first band of int32"},
		{exampleStrip(), math.MaxInt64, impl.Strip{}, impl.ErrRange, "the greatest"},
		{exampleStrip(), math.MinInt64, impl.Strip{}, impl.ErrRange, "the least"},
		{exampleStrip(), -1 << 62, impl.Strip{}, impl.ErrRange, "what is 0 when it is multiplied by 4"},
	} {
		finer, code := impl.FinerStrip(c.s, c.band)
		wantStrip(t, c.whyThatOne, finer, code, c.want, c.code)
	}
}
