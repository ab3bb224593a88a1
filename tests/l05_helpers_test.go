package tests

import (
	"math"
	"math/rand"
	"slices"
	"testing"

	"loop.example/g01301/impl"
)

func exampleStrip() impl.Strip {
	return impl.Strip{First: 6, Each: 2, Bands: 4}
}

// isStrip goes from band to band.
func isStrip(s impl.Strip) bool {
	if s.First < 0 || s.Each < 1 || s.Each > 9 || s.Bands < 1 || s.Bands > 20 {
		return false
	}
	lights := lightsBy(s)
	return lights[len(lights)-1] <= 36
}

func lightsBy(s impl.Strip) []int64 {
	lights, light := []int64{}, int64(s.First)
	for range s.Bands {
		lights = append(lights, light)
		light += int64(s.Each)
	}
	return lights
}

// coveredBy adds all times again for each band, and counts up to the last thirds whose time is at most the sum.
func coveredBy(s impl.Strip) []int64 {
	covered, lights := []int64{}, lightsBy(s)
	for band := range lights {
		sum, found := int64(0), int64(0)
		for _, light := range lights[:band+1] {
			sum += knownTimes()[light]
		}
		for thirds, time := range knownTimes() {
			if time <= sum {
				found = int64(thirds)
			}
		}
		covered = append(covered, found)
	}
	return covered
}

// allStrips are all valid strips there are.
func allStrips() []impl.Strip {
	list := []impl.Strip{}
	for first := range int8(37) {
		for each := int8(1); each <= 9; each++ {
			for bands := int8(1); bands <= 20; bands++ {
				s := impl.Strip{First: first, Each: each, Bands: bands}
				if isStrip(s) {
					list = append(list, s)
				}
			}
		}
	}
	return list
}

func invalidStrips() map[string]impl.Strip {
	return map[string]impl.Strip{
		"nothing":                   {},
		"first -1":                  {First: -1, Each: 1, Bands: 1},
		"first -1, and back":        {First: -1, Each: 1, Bands: 2},
		"first 37":                  {First: 37, Each: 1, Bands: 1},
		"first least":               {First: math.MinInt8, Each: 1, Bands: 1},
		"first greatest":            {First: math.MaxInt8, Each: 1, Bands: 1},
		"each 0":                    {First: 6, Each: 0, Bands: 1},
		"each -1":                   {First: 6, Each: -1, Bands: 4},
		"each 10":                   {First: 6, Each: 10, Bands: 1},
		"each least":                {First: 6, Each: math.MinInt8, Bands: 1},
		"each greatest":             {First: 6, Each: math.MaxInt8, Bands: 1},
		"bands 0":                   {First: 6, Each: 2, Bands: 0},
		"bands -1":                  {First: 6, Each: 2, Bands: -1},
		"bands 21":                  {First: 0, Each: 1, Bands: 21},
		"bands least":               {First: 6, Each: 2, Bands: math.MinInt8},
		"bands greatest":            {First: 6, Each: 2, Bands: math.MaxInt8},
		"last band 37":              {First: 17, Each: 4, Bands: 6},
		"last band 37 of twenty":    {First: 18, Each: 1, Bands: 20},
		"last band 37 of two":       {First: 36, Each: 1, Bands: 2},
		"last band 38":              {First: 0, Each: 2, Bands: 20},
		"last band wraps to 0":      {First: 4, Each: 9, Bands: 29},
		"last band beyond int8":     {First: 0, Each: 9, Bands: 20},
		"all fields least":          {First: math.MinInt8, Each: math.MinInt8, Bands: math.MinInt8},
		"all fields greatest":       {First: math.MaxInt8, Each: math.MaxInt8, Bands: math.MaxInt8},
		"less than nothing, thrice": {First: -6, Each: -2, Bands: -4},
	}
}

// shadeBy is the density of a paper behind one of a negative.
func shadeBy(paper impl.Curve, density, light int64) int64 {
	return densityBy(paper, light-heldBy(density))
}

func shadesBy(paper impl.Curve, density int64, lights []int64) []int64 {
	shades := []int64{}
	for _, light := range lights {
		shades = append(shades, shadeBy(paper, density, light))
	}
	return shades
}

// leastLightBy is -1 if no light is enough.
func leastLightBy(paper impl.Curve, density, target int64) int64 {
	for light := int64(0); light <= 36; light++ {
		if shadeBy(paper, density, light) >= target {
			return light
		}
	}
	return -1
}

// edgeDensities are limits, and those just beside and at a half that holds one third more back.
func edgeDensities() []int64 {
	return []int64{0, 1, 4, 5, 6, 14, 15, 16, 20, 24, 25, 60, 104, 105, 254, 255, 264, 265, 359, 360, 364, 365, 394, 395, 399, 400}
}

// targetsOf are the limits, what a paper has behind a density for all lights, and what lies just beside.
func targetsOf(paper impl.Curve, density int64) []int64 {
	targets := []int64{0, 1, 399, 400}
	for light := int64(0); light <= 36; light++ {
		shade := shadeBy(paper, density, light)
		targets = append(targets, shade-1, shade, shade+1)
	}
	return within(0, 400, targets...)
}

// unreached is never darker than 99.
func unreached() impl.Curve {
	return impl.Curve{{X: 0, Y: 0}, {X: 10, Y: 99}}
}

// stripPapers rise within the lights of strips, or beside them.
func stripPapers(others int) []impl.Curve {
	papers := []impl.Curve{
		unreached(),
		{{X: 0, Y: 0}, {X: 20, Y: 100}},
		{{X: 0, Y: 0}, {X: 36, Y: 360}},
		{{X: 35, Y: 0}, {X: 36, Y: 400}},
		{{X: 30, Y: 0}, {X: 31, Y: 400}},
		{{X: 29, Y: 0}, {X: 30, Y: 400}},
		{{X: 0, Y: 0}, {X: 1, Y: 400}},
		{{X: -1, Y: 0}, {X: 0, Y: 400}},
		{{X: 0, Y: 7}, {X: 6, Y: 7}, {X: 7, Y: 9}, {X: 12, Y: 9}, {X: 13, Y: 50}, {X: 24, Y: 50}, {X: 25, Y: 399}},
	}
	papers = append(papers, somePapers(0)...)
	numbers := rand.New(rand.NewSource(11))
	for range others {
		papers = append(papers, anyGrade(numbers))
	}
	return papers
}

// anyGrade returns a paper that may be hard or soft, and may be never dark.
func anyGrade(numbers *rand.Rand) impl.Curve {
	c := impl.Curve{}
	run, rise := 1+numbers.Intn(20), 1+numbers.Intn(160)
	x, y := numbers.Intn(45)-30, numbers.Intn(30)
	for range 1 + numbers.Intn(6) {
		c = append(c, impl.Point{X: int16(x), Y: int16(min(y, 400))})
		x += 1 + numbers.Intn(run)
		y += numbers.Intn(rise)
	}
	return c
}

// fitting has the light 10 for the density 100 behind 0, and just this density behind 100.
func fitting(density int16) impl.Curve {
	return impl.Curve{{X: 0, Y: density}, {X: 10, Y: 100}}
}

// scaled has a scale of so many thirds from 0 to 100, behind a beginning anywhere.
func scaled(begin, thirds int16) impl.Curve {
	return impl.Curve{{X: begin, Y: 0}, {X: begin + thirds, Y: 100}}
}

// someGrades are lists of papers, always the same ones in the same order, in which papers may be there several times.
func someGrades(count int) [][]impl.Curve {
	numbers := rand.New(rand.NewSource(13))
	papers := stripPapers(30)
	lists := [][]impl.Curve{}
	for range count {
		list, few := []impl.Curve{}, 1+numbers.Intn(len(papers))
		for range 1 + numbers.Intn(impl.MaxGrades) {
			list = append(list, papers[numbers.Intn(few)])
		}
		lists = append(lists, list)
	}
	return lists
}

func wantNumbers(t *testing.T, what string, got []int64, want ...int64) {
	t.Helper()
	if !slices.Equal(got, want) {
		t.Errorf("%s: got %v, want %v", what, got, want)
	}
}

// wantList holds a list and its code against what they are to be.
func wantList(t *testing.T, what string, list []int64, code int64, want []int64, wantCode int64) {
	t.Helper()
	if !slices.Equal(list, want) || code != wantCode {
		t.Errorf("%s: got %v %d, want %v %d", what, list, code, want, wantCode)
	}
}

func wantStrip(t *testing.T, what string, s impl.Strip, code int64, want impl.Strip, wantCode int64) {
	t.Helper()
	if s != want || code != wantCode {
		t.Errorf("%s: got %v %d, want %v %d", what, s, code, want, wantCode)
	}
}

// numbersOf makes a list of what a call returns, the code being the last one.
func numbersOf(numbers ...int64) []int64 {
	return numbers
}
