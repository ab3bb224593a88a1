package tests

import (
	"testing"

	"loop.example/g01301/impl"
)

// TestExamples2 has the example of chapter 2, clause by clause.
func TestExamples2(t *testing.T) {
	c, code := impl.ReadCurve("0:10 6:40 12:40 18:100")
	same(t, "the curve", c, exampleCurve())
	same(t, "its code", code, int64(impl.OK))
	for x, want := range map[int64]int64{-5: 10, 3: 25, 9: 40, 16: 80} {
		density, code := impl.CurveAt(c, x)
		same(t, "CurveAt", []int64{density, code}, []int64{want, impl.OK})
	}
	for y, want := range map[int64]int64{25: 3, 41: 13} {
		x, code := impl.ExposureFor(c, y)
		same(t, "ExposureFor", []int64{x, code}, []int64{want, impl.OK})
	}
	low, high, code := impl.ExposuresFor(c, 40)
	same(t, "ExposuresFor 40", []int64{low, high, code}, []int64{6, 12, impl.OK})
	index, rise, run, code := impl.SteepestPart(c)
	same(t, "the steepest part", []int64{index, rise, run, code}, []int64{2, 10, 1, impl.OK})
	simpler, gone, code := impl.SimplerCurve(c, 15)
	same(t, "within 15", simpler, impl.Curve{{X: 0, Y: 10}, {X: 12, Y: 40}, {X: 18, Y: 100}})
	same(t, "within 15", []int64{gone, code}, []int64{1, impl.OK})
	simpler, gone, code = impl.SimplerCurve(c, 0)
	same(t, "within 0", simpler, c)
	same(t, "within 0", []int64{gone, code}, []int64{0, impl.OK})
	density, code := impl.PrintedAt(c, impl.Curve{{X: 0, Y: 0}, {X: 10, Y: 100}}, 9, 8)
	same(t, "PrintedAt 9", []int64{density, code}, []int64{40, impl.OK})
}
