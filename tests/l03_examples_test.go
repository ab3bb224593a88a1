package tests

import (
	"testing"

	"loop.example/g01301/impl"
)

// TestExamples3 has the example of chapter 3, clause by clause.
func TestExamples3(t *testing.T) {
	n := impl.Negative(flat(20))
	paper, code := impl.ReadCurve("0:0 10:100")
	same(t, "the paper", code, int64(impl.OK))
	one := []impl.Step{{Mask: allCells, Thirds: 6}}
	light, code := impl.LightOn(one)
	same(t, "the code of LightOn", code, int64(impl.OK))
	p, code := impl.PrintFrom(n, paper, one)
	same(t, "the code of PrintFrom", code, int64(impl.OK))
	for cell := range p {
		same(t, "the light of each cell", light[cell], int64(6))
		same(t, "the density of each cell", p[cell], int16(40))
	}
	burn, code := impl.BurnSteps(6, 1, 6)
	wantSteps(t, "BurnSteps 6", burn, code, []impl.Step{{Mask: allCells, Thirds: 6}, {Mask: 1, Thirds: 6}}, impl.OK)
	times, code := impl.TimesOn(burn)
	same(t, "the time of the cell 0", []int64{times[0], times[1], code}, []int64{8000, 4000, impl.OK})
	light, code = impl.LightOn(burn)
	same(t, "the light of the cell 0", []int64{light[0], light[1], code}, []int64{9, 6, impl.OK})
	p, code = impl.PrintFrom(n, paper, burn)
	same(t, "the density of the cell 0", []int16{p[0], p[1]}, []int16{70, 40})
	same(t, "the code of PrintFrom", code, int64(impl.OK))
	mask, code := impl.MaskOf(0, 0, 1, 1)
	same(t, "MaskOf 0, 0, 1, 1", mask, uint64(771))
	same(t, "the code of MaskOf", code, int64(impl.OK))
	text := "0:0 10:100\nffffffffffffffff 6\n0000000000000001 6\n"
	same(t, "the text of this log", impl.LogText(paper, burn), text)
	back, steps, code := impl.ReadLog(text)
	same(t, "the paper of this log", back, paper)
	wantSteps(t, "the steps of this log", steps, code, burn, impl.OK)
	again, code := impl.RedoLog(n, text)
	same(t, "the print of this log", again, p)
	same(t, "the code of RedoLog", code, int64(impl.OK))
}
