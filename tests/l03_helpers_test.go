package tests

import (
	"maps"
	"math"
	"math/rand"
	"slices"
	"testing"

	"loop.example/g01301/impl"
)

const (
	noCells  = uint64(0)
	allCells = uint64(math.MaxUint64)
)

// grid is what negatives and prints are made of.
type grid = [64]int16

func flat(density int16) grid {
	g := grid{}
	for cell := range g {
		g[cell] = density
	}
	return g
}

// numbered returns a grid whose cells are all different.
func numbered() grid {
	g := grid{}
	for cell := range g {
		g[cell] = int16(6*cell + 1)
	}
	return g
}

// edgeCells are the first and the last cell, those at the ends of the first and the last row, and some others.
func edgeCells() []int {
	return []int{0, 1, 7, 8, 15, 16, 27, 36, 48, 55, 56, 57, 62, 63}
}

func with(g grid, cell int, density int16) grid {
	g[cell] = density
	return g
}

func validGrids() map[string]grid {
	grids := map[string]grid{
		"clear": flat(0), "dark": flat(400), "the example": flat(20), "numbered": numbered(),
		"half below": flat(14), "half above": flat(15),
	}
	for _, cell := range edgeCells() {
		grids["dark at "+cellName(cell)] = with(flat(0), cell, 400)
		grids["clear at "+cellName(cell)] = with(flat(400), cell, 0)
	}
	return grids
}

func invalidGrids() map[string]grid {
	grids := map[string]grid{
		"all -1": flat(-1), "all 401": flat(401), "all least": flat(math.MinInt16), "all greatest": flat(math.MaxInt16),
	}
	for _, cell := range edgeCells() {
		grids["-1 at "+cellName(cell)] = with(flat(0), cell, -1)
		grids["401 at "+cellName(cell)] = with(flat(400), cell, 401)
		grids["least at "+cellName(cell)] = with(numbered(), cell, math.MinInt16)
		grids["greatest at "+cellName(cell)] = with(numbered(), cell, math.MaxInt16)
	}
	return grids
}

func cellName(cell int) string {
	return string([]byte{'0' + byte(cell/8), '-', '0' + byte(cell%8)})
}

// someGrids are the valid grids above and others, always the same ones in the same order.
func someGrids(others int) []grid {
	list := []grid{}
	grids := validGrids()
	for _, name := range slices.Sorted(maps.Keys(grids)) {
		list = append(list, grids[name])
	}
	numbers := rand.New(rand.NewSource(3))
	for range others {
		list = append(list, anyGrid(numbers, 401))
	}
	return list
}

// anyGrid returns a grid with densities that are less than most.
func anyGrid(numbers *rand.Rand, most int) grid {
	g := grid{}
	for cell := range g {
		g[cell] = int16(numbers.Intn(most))
	}
	return g
}

// repeated returns some equal steps.
func repeated(count int, mask uint64, thirds int8) []impl.Step {
	return slices.Repeat([]impl.Step{{Mask: mask, Thirds: thirds}}, count)
}

func validStepLists() map[string][]impl.Step {
	return map[string][]impl.Step{
		"nil":                nil,
		"empty":              {},
		"the example":        {{Mask: allCells, Thirds: 6}, {Mask: 1, Thirds: 6}},
		"no cells":           {{Mask: noCells, Thirds: 6}},
		"no cells, least":    {{Mask: noCells, Thirds: 0}},
		"all cells, least":   {{Mask: allCells, Thirds: 0}},
		"all cells, most":    {{Mask: allCells, Thirds: 36}},
		"first cell":         {{Mask: 1, Thirds: 1}},
		"last cell":          {{Mask: 1 << 63, Thirds: 35}},
		"first row":          {{Mask: 0xff, Thirds: 7}},
		"last row":           {{Mask: 0xff << 56, Thirds: 7}},
		"first column":       {{Mask: 0x0101010101010101, Thirds: 8}},
		"last column":        {{Mask: 0x8080808080808080, Thirds: 8}},
		"shared":             {{Mask: 3, Thirds: 4}, {Mask: 2, Thirds: 4}, {Mask: 4, Thirds: 4}, {Mask: 1, Thirds: 4}},
		"thirty, least":      repeated(30, allCells, 0),
		"thirty, most":       repeated(30, allCells, 36),
		"just thirds in all": repeated(24, allCells, 36),
		"beyond thirds":      repeated(25, allCells, 36),
		"all different":      {{Mask: 1, Thirds: 0}, {Mask: 2, Thirds: 1}, {Mask: 4, Thirds: 2}, {Mask: 8, Thirds: 3}, {Mask: allCells, Thirds: 4}},
	}
}

func invalidStepLists() map[string][]impl.Step {
	return map[string][]impl.Step{
		"thirty-one":           repeated(31, 1, 0),
		"thirty-one, no cells": repeated(31, 0, 0),
		"thirds -1":            {{Mask: 1, Thirds: -1}},
		"thirds 37":            {{Mask: 1, Thirds: 37}},
		"thirds least":         {{Mask: 1, Thirds: math.MinInt8}},
		"thirds greatest":      {{Mask: 1, Thirds: math.MaxInt8}},
		"no cells, -1":         {{Mask: 0, Thirds: -1}},
		"no cells, 37":         {{Mask: 0, Thirds: 37}},
		"late -1":              {{Mask: 1, Thirds: 36}, {Mask: 2, Thirds: 0}, {Mask: allCells, Thirds: -1}},
		"late 37":              {{Mask: 1, Thirds: 36}, {Mask: 2, Thirds: 0}, {Mask: allCells, Thirds: 37}},
		"first alone":          {{Mask: 1, Thirds: 37}, {Mask: 2, Thirds: 0}},
		"thirty, 37 at last":   append(repeated(29, allCells, 36), impl.Step{Mask: 1, Thirds: 37}),
	}
}

// someStepLists are the valid lists above and others, always the same ones in the same order.
func someStepLists(others int) [][]impl.Step {
	list := [][]impl.Step{}
	steps := validStepLists()
	for _, name := range slices.Sorted(maps.Keys(steps)) {
		list = append(list, steps[name])
	}
	numbers := rand.New(rand.NewSource(4))
	for range others {
		list = append(list, anySteps(numbers))
	}
	return list
}

// anySteps returns steps with few or many cells, and with few or many different thirds.
func anySteps(numbers *rand.Rand) []impl.Step {
	steps := []impl.Step{}
	kinds, sparse := 1+numbers.Intn(37), numbers.Intn(6)
	for range numbers.Intn(impl.MaxSteps + 1) {
		mask := numbers.Uint64()
		for range sparse {
			mask &= numbers.Uint64()
		}
		steps = append(steps, impl.Step{Mask: mask, Thirds: int8(numbers.Intn(kinds))})
	}
	return steps
}

// hasBit divides, so that it is told by the definition of a set of cells.
func hasBit(mask uint64, cell int) bool {
	for range cell {
		mask /= 2
	}
	return mask%2 == 1
}

func timesBy(steps []impl.Step) [64]int64 {
	times := [64]int64{}
	for cell := range times {
		for _, s := range steps {
			if hasBit(s.Mask, cell) {
				times[cell] += knownTimes()[s.Thirds]
			}
		}
	}
	return times
}

// lightBy counts up to the last thirds whose time is at most the sum.
func lightBy(steps []impl.Step) [64]int64 {
	light := [64]int64{}
	for cell, time := range timesBy(steps) {
		light[cell] = -1
		for thirds, needed := range knownTimes() {
			if needed <= time {
				light[cell] = int64(thirds)
			}
		}
	}
	return light
}

func printBy(n impl.Negative, paper impl.Curve, steps []impl.Step) impl.Print {
	p := impl.Print{}
	for cell, light := range lightBy(steps) {
		place := light - heldBy(int64(n[cell]))
		if light == -1 {
			place = -200
		}
		p[cell] = int16(densityBy(paper, place))
	}
	return p
}

// somePapers have densities for the exposures that prints get, and for those of cells without light.
func somePapers(others int) []impl.Curve {
	papers := []impl.Curve{
		examplePaper(),
		{{X: -200, Y: 3}, {X: -199, Y: 7}, {X: -40, Y: 9}, {X: -39, Y: 12}, {X: 36, Y: 380}, {X: 37, Y: 400}},
		{{X: -40, Y: 0}, {X: 36, Y: 76}},
		{{X: 0, Y: 0}, {X: 36, Y: 36}},
		{{X: -200, Y: 0}, {X: 200, Y: 400}},
		{{X: 37, Y: 0}, {X: 38, Y: 400}},
	}
	return append(papers, someCurves(others)...)
}

func wantSteps(t *testing.T, what string, steps []impl.Step, code int64, want []impl.Step, wantCode int64) {
	t.Helper()
	if !slices.Equal(steps, want) || code != wantCode {
		t.Errorf("%s: got %v %d, want %v %d", what, steps, code, want, wantCode)
	}
}
