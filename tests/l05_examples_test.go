package tests

import (
	"testing"

	"loop.example/g01301/impl"
)

// TestExamples5 has the example of chapter 5, clause by clause.
func TestExamples5(t *testing.T) {
	paper := impl.Curve{{X: 0, Y: 0}, {X: 10, Y: 100}}
	read, code := impl.ReadCurve("0:0 10:100")
	wantCurve(t, "the paper", read, code, paper, impl.OK)
	s, code := impl.ReadStrip("6 2 4")
	wantStrip(t, "the strip", s, code, impl.Strip{First: 6, Each: 2, Bands: 4}, impl.OK)
	list, code := impl.LightsOf(s)
	wantList(t, "the lights", list, code, []int64{6, 8, 10, 12}, impl.OK)
	list, code = impl.CoveredLights(s)
	wantList(t, "covered band by band", list, code, []int64{6, 10, 13, 15}, impl.OK)
	list, code = impl.BandsOf(s, paper, 20)
	wantList(t, "the bands behind 20", list, code, []int64{40, 60, 80, 100}, impl.OK)
	wantNumbers(t, "the nearest one to 65", numbersOf(impl.NearestBand(list, 65)), 1, -5, impl.OK)
	wantNumbers(t, "the first one of at least 65", numbersOf(impl.FirstBand(list, 65)), 2, impl.OK)
	wantNumbers(t, "LightByStrips of 65 behind 20", numbersOf(impl.LightByStrips(paper, 20, 65)), 9, 2, impl.OK)
	wantNumbers(t, "ScaleOf from 10 to 90", numbersOf(impl.ScaleOf(paper, 10, 90)), 8, impl.OK)
	wantNumbers(t, "MisfitOf for 20 to 60", numbersOf(impl.MisfitOf(paper, 20, 60, 90, 40)), 11, 10, impl.OK)
}
