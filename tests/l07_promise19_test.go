package tests

import (
	"slices"
	"testing"

	"loop.example/g01301/impl"
)

// TestPromise19Shared: each cell of a mask is in just one spot, no cell of another spot is beside it, and all of it is reached.
func TestPromise19Shared(t *testing.T) {
	for _, mask := range someMasks(3000) {
		all := noCells
		for _, spot := range impl.SpotsOf(mask) {
			if spot == 0 || spot&^mask != 0 || spot&all != 0 {
				t.Fatalf("%x: the spot %x is none, or has cells of others", mask, spot)
			}
			same(t, "cells of the mask beside a spot", grownBy(spot)&mask, spot)
			reached := spot & -spot
			for range 64 {
				reached = grownBy(reached) & spot
			}
			same(t, "cells that are reached", reached, spot)
			all |= spot
		}
		same(t, "all spots", all, mask)
	}
}

// TestPromise19Spots also has the order of the spots.
func TestPromise19Spots(t *testing.T) {
	for _, mask := range someMasks(3000) {
		want := spotsBy(mask)
		wantSpots(t, "SpotsOf", mask, want)
		greatest, size := noCells, 0
		for _, spot := range want {
			if count := len(cellsOf(spot)); count > size {
				greatest, size = spot, count
			}
		}
		code := int64(impl.OK)
		if mask == noCells {
			code = impl.ErrNotFound
		}
		got, gotCode := impl.GreatestSpot(mask)
		wantMask(t, "GreatestSpot", got, gotCode, greatest, code)
	}
}

func wantSpots(t *testing.T, what string, mask uint64, want []uint64) {
	t.Helper()
	if got := impl.SpotsOf(mask); !slices.Equal(got, want) {
		t.Errorf("%s: %x has %x, want %x", what, mask, got, want)
	}
}

const (
	ring     = "........ .#####.. .#...#.. .#.#.#.. .#...#.. .#####.. ........ ........"
	spiral   = "######## .......# ######.# #....#.# #.##.#.# #.####.# #......# ########"
	comb     = "#.#.#.#. #.#.#.#. #.#.#.#. #.#.#.#. #.#.#.#. #.#.#.#. #.#.#.#. ########"
	hook     = "...#.... ...#.... #..#.... #..#.... ####.... ........ ........ .......#"
	board    = "#.#.#.#. .#.#.#.# #.#.#.#. .#.#.#.# #.#.#.#. .#.#.#.# #.#.#.#. .#.#.#.#"
	border   = "######## #......# #......# #......# #......# #......# #......# ########"
	inside   = "........ .######. .######. .######. .######. .######. .######. ........"
	rows     = "######## ........ ######## ........ ######## ........ ######## ........"
	corners  = "#......# ........ ........ ........ ........ ........ ........ #......#"
	diagonal = "#....... .#...... ..#..... ...#.... ....#... .....#.. ......#. .......#"
	pairs    = "##...... ......## ##...... ......## ###..... .....### ........ ..###..."
)

func TestPromise19SpotCases(t *testing.T) {
	single := []uint64{}
	for cell := range 64 {
		if (cell/8+cell%8)%2 == 0 {
			single = append(single, 1<<cell)
		}
	}
	for _, c := range []struct {
		mask       uint64
		spots      []uint64
		greatest   int
		whyThatOne string
	}{
		{noCells, nil, -1, "no cell"},
		{allCells, []uint64{allCells}, 0, "all cells"},
		{1, []uint64{1}, 0, "the first cell"},
		{1 << 63, []uint64{1 << 63}, 0, "the last cell"},
		{marksOf(7, 8), []uint64{1 << 7, 1 << 8}, 0, "the end of a row and the beginning of the next one"},
		{marksOf(15, 16, 55, 56), []uint64{1 << 15, 1 << 16, 1 << 55, 1 << 56}, 0, "the ends of rows and the beginnings of the next ones"},
		{marksOf(0, 7), []uint64{1, 1 << 7}, 0, "both ends of a row"},
		{marksOf(0, 56), []uint64{1, 1 << 56}, 0, "both ends of a column"},
		{marksOf(0, 63), []uint64{1, 1 << 63}, 0, "the first and the last cell"},
		{marksOf(0, 9), []uint64{1, 1 << 9}, 0, "cells that touch at a corner"},
		{marksOf(1, 8), []uint64{2, 1 << 8}, 0, "cells that touch at another corner"},
		{marksOf(0, 1, 8), []uint64{marksOf(0, 1, 8)}, 0, "cells around a corner"},
		{marksOf(0, 1, 9), []uint64{marksOf(0, 1, 9)}, 0, "cells around another corner"},
		{marksOf(0, 2, 8, 9, 10), []uint64{marksOf(0, 2, 8, 9, 10)}, 0, "cells that meet below"},
		{marksOf(54, 55, 62, 63), []uint64{marksOf(54, 55, 62, 63)}, 0, "two by two"},
		{drawn(ring), []uint64{drawn(ring) &^ (1 << 27), 1 << 27}, 0, "a ring around a cell"},
		{drawn(spiral), []uint64{drawn(spiral)}, 0, "a spiral"},
		{drawn(comb), []uint64{drawn(comb)}, 0, "columns that meet in the last row"},
		{drawn(hook), []uint64{drawn(hook) &^ (1 << 63), 1 << 63}, 0, "a spot that reaches around, back to the north"},
		{drawn(board), single, 0, "cells that only touch at corners"},
		{drawn(border), []uint64{drawn(border)}, 0, "the border"},
		{drawn(inside), []uint64{drawn(inside)}, 0, "all but the border"},
		{drawn(rows), []uint64{0xff, 0xff << 16, 0xff << 32, 0xff << 48}, 0, "rows of equal size"},
		{drawn(corners), []uint64{1, 1 << 7, 1 << 56, 1 << 63}, 0, "corners"},
		{drawn(diagonal), []uint64{1, 1 << 9, 1 << 18, 1 << 27, 1 << 36, 1 << 45, 1 << 54, 1 << 63}, 0, "a diagonal"},
		{drawn(pairs), []uint64{3, 3 << 14, 3 << 16, 3 << 30, 7 << 32, 7 << 45, 7 << 58}, 4, "the first one of the greater ones"},
		{marksOf(0, 62, 63), []uint64{1, 3 << 62}, 1, "the last one is the greatest"},
		{marksOf(0, 7, 15, 23, 16, 17), []uint64{1, marksOf(7, 15, 23), marksOf(16, 17)}, 1, "the one in the middle is the greatest"},
	} {
		wantSpots(t, c.whyThatOne, c.mask, c.spots)
		spot, code := impl.GreatestSpot(c.mask)
		if c.greatest < 0 {
			wantMask(t, c.whyThatOne, spot, code, 0, impl.ErrNotFound)
			continue
		}
		wantMask(t, c.whyThatOne, spot, code, c.spots[c.greatest], impl.OK)
	}
}

// TestPromise19Pairs has all masks of two cells.
func TestPromise19Pairs(t *testing.T) {
	for a := range 64 {
		for b := a + 1; b < 64; b++ {
			mask := marksOf(a, b)
			want := []uint64{1 << a, 1 << b}
			if slices.Contains(besideBy(a), b) {
				want = []uint64{mask}
			}
			wantSpots(t, "a pair", mask, want)
		}
	}
}

func TestPromise19Grown(t *testing.T) {
	for _, mask := range someMasks(3000) {
		same(t, "GrowMask", impl.GrowMask(mask), grownBy(mask))
	}
	for mask, want := range map[uint64]uint64{
		noCells: noCells, allCells: allCells, 1: 259,
		1 << 7: marksOf(6, 7, 15), 1 << 8: marksOf(0, 8, 9, 16), 1 << 15: marksOf(7, 14, 15, 23), 1 << 27: marksOf(19, 26, 27, 28, 35),
		1 << 56: marksOf(48, 56, 57), 1 << 63: marksOf(55, 62, 63), 1 << 3: marksOf(2, 3, 4, 11), 1 << 60: marksOf(52, 59, 60, 61),
		0xff: 0xffff, 0xff << 56: 0xffff << 48, drawn(board): allCells, drawn(inside): ^drawn(corners), drawn(border): drawn(border) | grownBy(drawn(border)),
	} {
		same(t, "GrowMask", impl.GrowMask(mask), want)
	}
}

func wantRepaired(t *testing.T, what string, p impl.Print, mask uint64, want impl.Print, wantRounds int64) {
	t.Helper()
	repaired, rounds, code := impl.RepairCells(p, mask)
	if repaired != want || rounds != wantRounds || code != impl.OK {
		t.Errorf("%s: got %v %d %d, want %v %d", what, repaired, rounds, code, want, wantRounds)
	}
	wantNumbers(t, what, numbersOf(impl.RoundsFor(mask)), wantRounds, impl.OK)
}

// TestPromise19Repaired has all repairs by their definition.
func TestPromise19Repaired(t *testing.T) {
	grids := someGrids(40)
	for i, mask := range someMasks(3000) {
		if mask == allCells {
			continue
		}
		p := impl.Print(grids[i%len(grids)])
		want, rounds := repairBy(p, mask)
		wantRepaired(t, "RepairCells", p, mask, want, rounds)
	}
}

// TestPromise19Between: what is repaired lies between its neighbours; what is not in the mask stays as it is.
func TestPromise19Between(t *testing.T) {
	grids := someGrids(40)
	for i, mask := range someMasks(2000) {
		if mask == allCells {
			continue
		}
		p := impl.Print(grids[i%len(grids)])
		repaired, _, code := impl.RepairCells(p, mask)
		same(t, "RepairCells", code, int64(impl.OK))
		same(t, "what is repaired is valid", impl.ValidPrint(repaired), true)
		low, high := int16(400), int16(0)
		for _, cell := range cellsOf(^mask) {
			same(t, "a cell that is not in the mask", repaired[cell], p[cell])
			low, high = min(low, p[cell]), max(high, p[cell])
		}
		for _, cell := range cellsOf(mask) {
			around := []int16{}
			for _, other := range besideBy(cell) {
				around = append(around, repaired[other])
			}
			if repaired[cell] < slices.Min(around) || repaired[cell] > slices.Max(around) || repaired[cell] < low || repaired[cell] > high {
				t.Fatalf("%x: the cell %d has %d among %v", mask, cell, repaired[cell], around)
			}
		}
	}
}

// TestPromise19WhatWasThere: what cells of the mask have had before makes no difference.
func TestPromise19WhatWasThere(t *testing.T) {
	grids := someGrids(20)
	for i, mask := range someMasks(500) {
		a, b := impl.Print(grids[i%len(grids)]), impl.Print(grids[(i+7)%len(grids)])
		for cell := range 64 {
			if !hasBit(mask, cell) {
				b[cell] = a[cell]
			}
		}
		same(t, "RepairCells", outcomeOf(impl.RepairCells(b, mask)), outcomeOf(impl.RepairCells(a, mask)))
	}
}

func TestPromise19RepairCases(t *testing.T) {
	dark := numbered()
	for _, c := range []struct {
		p          impl.Print
		mask       uint64
		want       impl.Print
		rounds     int64
		whyThatOne string
	}{
		{dark, noCells, dark, 0, "no cell"},
		{dark, 1, with(dark, 0, (dark[1]+dark[8])/2), 1, "a corner"},
		{dark, 1 << 63, with(dark, 63, (dark[62]+dark[55])/2), 1, "the last corner"},
		{with(with(dark, 6, 10), 15, 13), 1 << 7, with(with(with(dark, 6, 10), 15, 13), 7, 11), 1, "a corner, rounded down"},
		{with(with(dark, 48, 0), 57, 1), 1 << 56, with(with(with(dark, 48, 0), 57, 1), 56, 0), 1, "a corner, rounded down to 0"},
		{with(with(with(dark, 2, 100), 4, 101), 11, 101), 1 << 3, with(with(with(with(dark, 2, 100), 4, 101), 11, 101), 3, 100), 1, "the border, rounded down from 100 and two thirds"},
		{with(with(with(dark, 8, 100), 17, 100), 24, 101), 1 << 16, with(with(with(with(dark, 8, 100), 17, 100), 24, 101), 16, 100), 1, "the border, rounded down from 100 and a third"},
		{with(with(with(with(flat(0), 19, 400), 26, 400), 28, 400), 35, 399), 1 << 27, with(with(with(with(with(flat(0), 19, 400), 26, 400), 28, 400), 35, 399), 27, 399), 1, "four neighbours, rounded down from three quarters"},
		{dusted(50, 400, 9), 512, flat(50), 1, "dust"},
		{dusted(0, 400, 1, 8), marksOf(0), dusted(0, 400, 0, 1, 8), 1, "as dark as can be"},
		{with(flat(0), 63, 100), ^uint64(1 << 63), flat(100), 14, "all cells but the last one"},
		{with(flat(400), 0, 0), ^uint64(1), flat(0), 14, "all cells but the first one"},
		{with(flat(400), 27, 9), ^uint64(1 << 27), flat(9), 8, "all cells but one in the middle"},
		{with(flat(400), 36, 9), ^uint64(1 << 36), flat(9), 8, "all cells but another one in the middle"},
		{with(flat(400), 7, 9), ^uint64(1 << 7), flat(9), 14, "all cells but the one at the end of the first row"},
		{with(flat(400), 3, 9), ^uint64(1 << 3), flat(9), 11, "all cells but one at the border"},
		{with(flat(0), 9, 90), marksOf(0, 1, 8, 9), flat(0), 2, "two rounds, the corner behind all others"},
		{with(flat(10), 16, 20), marksOf(0, 8), with(with(flat(10), 16, 20), 8, 15), 1, "two cells in one round, which take nothing from each other"},
	} {
		wantRepaired(t, c.whyThatOne, c.p, c.mask, c.want, c.rounds)
	}
}

// TestPromise19Slope has a row between two others: each round takes what the round before has made.
func TestPromise19Slope(t *testing.T) {
	p := flat(0)
	for cell := range 8 {
		p = with(with(p, cell, 7), 56+cell, 100)
	}
	want := flat(7)
	for cell := 32; cell < 64; cell++ {
		want = with(want, cell, 100)
	}
	wantRepaired(t, "three rows from the north and three from the south", p, 0x00ffffffffffff00, want, 3)
	for cell := range 8 {
		p = with(p, 8+cell, 7)
		want = with(with(want, 32+cell, 53), 24+cell, 7)
	}
	wantRepaired(t, "the row in the middle takes from both", p, 0x00ffffffffff0000, want, 3)
}

// TestPromise19EachCell repairs one cell, and all cells but one.
func TestPromise19EachCell(t *testing.T) {
	for cell := range 64 {
		sum, beside := int64(0), besideBy(cell)
		for _, other := range beside {
			sum += int64(numbered()[other])
		}
		mean := int16(floorBy(sum, int64(len(beside))))
		wantRepaired(t, "one cell", numbered(), 1<<cell, with(numbered(), cell, mean), 1)
		x, y := int64(cell%8), int64(cell/8)
		rounds := max(x, 7-x) + max(y, 7-y)
		wantRepaired(t, "all cells but one", with(flat(400), cell, 33), ^uint64(1<<cell), flat(33), rounds)
	}
}

// TestPromise19Rounds: no more rounds are needed for fewer cells.
func TestPromise19Rounds(t *testing.T) {
	for _, mask := range someMasks(1000) {
		if mask == allCells {
			continue
		}
		_, want := repairBy(flat(0), mask)
		wantNumbers(t, "RoundsFor", numbersOf(impl.RoundsFor(mask)), want, impl.OK)
		for _, cell := range edgeCells() {
			rounds, code := impl.RoundsFor(mask &^ (1 << cell))
			isBetween(t, "RoundsFor fewer cells", rounds, code, 0, want)
		}
	}
}

func TestPromise19AllCells(t *testing.T) {
	for _, p := range someGrids(20) {
		wantOutcome(t, "RepairCells", outcomeOf(impl.RepairCells(p, allCells)), impl.ErrNotFound)
	}
	wantNumbers(t, "RoundsFor", numbersOf(impl.RoundsFor(allCells)), 0, impl.ErrNotFound)
	wantNumbers(t, "RoundsFor no cells", numbersOf(impl.RoundsFor(noCells)), 0, impl.OK)
}
