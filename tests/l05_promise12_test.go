package tests

import (
	"testing"

	"loop.example/g01301/impl"
)

// bandAt exposes a strip of one band.
func bandAt(t *testing.T, paper impl.Curve, density, light int64) int64 {
	t.Helper()
	bands, code := impl.BandsOf(impl.Strip{First: int8(light), Each: 1, Bands: 1}, paper, density)
	if code != impl.OK || len(bands) != 1 {
		t.Fatalf("BandsOf %v %d at %d: got %v %d", paper, density, light, bands, code)
	}
	return bands[0]
}

// TestPromise12Least exposes single bands: with the light that is found, with one third less, and with all light.
func TestPromise12Least(t *testing.T) {
	for _, paper := range stripPapers(40) {
		for _, density := range edgeDensities() {
			for _, target := range targetsOf(paper, density) {
				light, strips, code := impl.LightByStrips(paper, density, target)
				if code != impl.OK {
					wantNumbers(t, "what is not found", []int64{light, strips, code}, 0, 0, impl.ErrNotFound)
					if most := bandAt(t, paper, density, 36); most >= target {
						t.Fatalf("LightByStrips %v %d %d: none is found, but there is %d", paper, density, target, most)
					}
					continue
				}
				if light < 0 || light > 36 || bandAt(t, paper, density, light) < target {
					t.Fatalf("LightByStrips %v %d %d: %d is not enough", paper, density, target, light)
				}
				if light > 0 && bandAt(t, paper, density, light-1) >= target {
					t.Fatalf("LightByStrips %v %d %d: less than %d is enough", paper, density, target, light)
				}
				if strips != min(1+light, 2) {
					t.Fatalf("LightByStrips %v %d %d: %d with %d strips", paper, density, target, light, strips)
				}
			}
		}
	}
}

// TestPromise12AllLights tries all lights from 0 on.
func TestPromise12AllLights(t *testing.T) {
	for _, paper := range stripPapers(40) {
		for _, density := range edgeDensities() {
			for _, target := range targetsOf(paper, density) {
				want := numbersOf(0, 0, impl.ErrNotFound)
				switch light := leastLightBy(paper, density, target); {
				case light == 0:
					want = numbersOf(0, 1, impl.OK)
				case light > 0:
					want = numbersOf(light, 2, impl.OK)
				}
				wantNumbers(t, "LightByStrips", numbersOf(impl.LightByStrips(paper, density, target)), want...)
			}
		}
	}
}

// stripByStrip exposes the strips that the document tells, with six bands each.
func stripByStrip(paper impl.Curve, density, target int64) []int64 {
	first := impl.Strip{First: 0, Each: 6, Bands: 6}
	bands, _ := impl.BandsOf(first, paper, density)
	band, code := impl.FirstBand(bands, target)
	if code == impl.OK && band == 0 {
		return []int64{0, 1, impl.OK}
	}
	second := impl.Strip{First: 31, Each: 1, Bands: 6}
	if code == impl.OK {
		second.First = int8(6*band - 5)
	}
	bands, _ = impl.BandsOf(second, paper, density)
	band, code = impl.FirstBand(bands, target)
	if code != impl.OK {
		return []int64{0, 0, impl.ErrNotFound}
	}
	return []int64{int64(second.First) + band, 2, impl.OK}
}

func TestPromise12StripByStrip(t *testing.T) {
	for _, paper := range stripPapers(40) {
		for _, density := range edgeDensities() {
			for _, target := range targetsOf(paper, density) {
				want := stripByStrip(paper, density, target)
				wantNumbers(t, "LightByStrips", numbersOf(impl.LightByStrips(paper, density, target)), want...)
			}
		}
	}
}

func TestPromise12Cases(t *testing.T) {
	paper := examplePaper()
	flat, dark := impl.Curve{{X: 5, Y: 33}}, impl.Curve{{X: -200, Y: 400}}
	last, late := impl.Curve{{X: 35, Y: 0}, {X: 36, Y: 400}}, impl.Curve{{X: 36, Y: 0}, {X: 37, Y: 400}}
	for _, c := range []struct {
		paper           impl.Curve
		density, target int64
		want            []int64
		whyThatOne      string
	}{
		{paper, 20, 65, []int64{9, 2, impl.OK}, "the example"},
		{paper, 0, 0, []int64{0, 1, impl.OK}, "the first band has it"},
		{paper, 400, 0, []int64{0, 1, impl.OK}, "the first band has it, behind all"},
		{paper, 0, 1, []int64{1, 2, impl.OK}, "just behind the first band"},
		{paper, 0, 10, []int64{1, 2, impl.OK}, "just what the light has"},
		{paper, 0, 60, []int64{6, 2, impl.OK}, "the second band of the first strip"},
		{paper, 0, 61, []int64{7, 2, impl.OK}, "just behind the second band"},
		{paper, 0, 100, []int64{10, 2, impl.OK}, "as dark as can be"},
		{paper, 0, 101, []int64{0, 0, impl.ErrNotFound}, "darker than can be"},
		{paper, 4, 100, []int64{10, 2, impl.OK}, "nothing held back"},
		{paper, 5, 100, []int64{11, 2, impl.OK}, "the least half"},
		{paper, 194, 100, []int64{29, 2, impl.OK}, "just before a half"},
		{paper, 195, 100, []int64{30, 2, impl.OK}, "a half, and the last band of the first strip"},
		{paper, 205, 100, []int64{31, 2, impl.OK}, "just behind the last band of the first strip"},
		{paper, 255, 100, []int64{36, 2, impl.OK}, "the most light"},
		{paper, 264, 100, []int64{36, 2, impl.OK}, "the most light, just before a half"},
		{paper, 265, 100, []int64{0, 0, impl.ErrNotFound}, "more than the most light, by a half"},
		{paper, 265, 90, []int64{36, 2, impl.OK}, "the most light, and not as dark"},
		{paper, 265, 91, []int64{0, 0, impl.ErrNotFound}, "just darker than with the most light"},
		{paper, 400, 1, []int64{0, 0, impl.ErrNotFound}, "behind all"},
		{flat, 0, 33, []int64{0, 1, impl.OK}, "a flat paper"},
		{flat, 400, 33, []int64{0, 1, impl.OK}, "a flat paper behind all"},
		{flat, 0, 34, []int64{0, 0, impl.ErrNotFound}, "a flat paper, too light"},
		{dark, 400, 400, []int64{0, 1, impl.OK}, "a dark paper behind all"},
		{last, 0, 1, []int64{36, 2, impl.OK}, "with the most light alone"},
		{last, 0, 400, []int64{36, 2, impl.OK}, "as dark as can be with the most light alone"},
		{last, 5, 1, []int64{0, 0, impl.ErrNotFound}, "with more than the most light, by a half"},
		{late, 0, 1, []int64{0, 0, impl.ErrNotFound}, "with more than the most light"},
		{late, 0, 0, []int64{0, 1, impl.OK}, "no target"},
		{paper, -1, 50, []int64{0, 0, impl.ErrRange}, "a density less than 0"},
		{paper, 401, 50, []int64{0, 0, impl.ErrRange}, "too great a density"},
		{paper, 20, -1, []int64{0, 0, impl.ErrRange}, "a target less than 0"},
		{paper, 20, 401, []int64{0, 0, impl.ErrRange}, "too great a target"},
		{nil, 20, 401, []int64{0, 0, impl.ErrInvalid}, "no paper"},
	} {
		wantNumbers(t, c.whyThatOne, numbersOf(impl.LightByStrips(c.paper, c.density, c.target)), c.want...)
	}
}
