package tests

import (
	"testing"

	"loop.example/g01301/impl"
)

// TestExamples7 has the example of chapter 7, clause by clause.
func TestExamples7(t *testing.T) {
	copies := []impl.Print{flat(50), dusted(50, 90, 9), flat(50)}
	median, code := impl.MedianPrint(copies)
	wantPrint(t, "the median", median, code, flat(50), impl.OK)
	dust, code := impl.DustIn(copies, 1, 10)
	wantMask(t, "the dust in the second one", dust, code, 512, impl.OK)
	repaired, rounds, code := impl.RepairCells(copies[1], 512)
	wantPrint(t, "RepairCells of it", repaired, code, flat(50), impl.OK)
	same(t, "in one round", rounds, int64(1))
	same(t, "the spots of the cells 0, 1 and 3", impl.SpotsOf(1<<0|1<<1|1<<3), []uint64{3, 8})
	same(t, "GrowMask of the cell 0", impl.GrowMask(1), uint64(259))
	wantNumbers(t, "all cells but the one at 0, 0", numbersOf(impl.RoundsFor(allCells&^1)), 14, impl.OK)
}
