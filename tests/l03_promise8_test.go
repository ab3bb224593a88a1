package tests

import (
	"slices"
	"testing"

	"loop.example/g01301/impl"
)

// thirdsBy tries all thirds for each cell, and returns -1 for a cell for which none are enough.
func thirdsBy(n impl.Negative, paper impl.Curve, target impl.Print) [64]int64 {
	needed := [64]int64{}
	for cell := range needed {
		needed[cell] = -1
		for thirds := int64(36); thirds >= 0; thirds-- {
			if densityBy(paper, thirds-heldBy(int64(n[cell]))) >= int64(target[cell]) {
				needed[cell] = thirds
			}
		}
	}
	return needed
}

// stepsBy has a step for each number of thirds that cells need.
func stepsBy(needed [64]int64) ([]impl.Step, int64) {
	steps := []impl.Step{}
	for thirds := int64(-1); thirds <= 36; thirds++ {
		mask, bit := uint64(0), uint64(1)
		for _, other := range needed {
			if other == thirds {
				mask += bit
			}
			bit *= 2
		}
		if mask != 0 && thirds == -1 {
			return nil, impl.ErrNotFound
		}
		if mask != 0 {
			steps = append(steps, impl.Step{Mask: mask, Thirds: int8(thirds)})
		}
	}
	return steps, impl.OK
}

func TestPromise8Steps(t *testing.T) {
	papers := somePapers(30)
	grids := someGrids(100)
	for _, paper := range papers {
		most := paper[len(paper)-1].Y
		for i, g := range grids {
			target := impl.Print(grids[(i+7)%len(grids)])
			checkStepsFor(t, g, paper, target)
			for cell := range target {
				target[cell] = min(target[cell], most) // so that more of them can be reached
			}
			checkStepsFor(t, g, paper, target)
			for cell := range target {
				target[cell] /= 8
			}
			checkStepsFor(t, g, paper, target)
		}
	}
}

func checkStepsFor(t *testing.T, n impl.Negative, paper impl.Curve, target impl.Print) {
	t.Helper()
	want, wantCode := stepsBy(thirdsBy(n, paper, target))
	steps, code := impl.StepsFor(n, paper, target)
	if !slices.Equal(steps, want) || code != wantCode {
		t.Fatalf("StepsFor %v %v %v: got %v %d, want %v %d", n, paper, target, steps, code, want, wantCode)
	}
	if code == impl.OK && len(steps) <= 30 {
		checkReached(t, n, paper, target, steps)
	}
}

// checkReached prints with the steps, and with one third less each: then no cell has what it needs.
func checkReached(t *testing.T, n impl.Negative, paper impl.Curve, target impl.Print, steps []impl.Step) {
	t.Helper()
	p, code := impl.PrintFrom(n, paper, steps)
	if code != impl.OK {
		t.Fatalf("PrintFrom %v: got %d", steps, code)
	}
	for cell := range p {
		if p[cell] < target[cell] {
			t.Fatalf("%v %v: %d in the cell %d does not reach %d", n, paper, p[cell], cell, target[cell])
		}
	}
	for _, s := range steps {
		if s.Thirds == 0 {
			continue
		}
		p, _ := impl.PrintFrom(n, paper, []impl.Step{{Mask: s.Mask, Thirds: s.Thirds - 1}})
		for cell := range p {
			if hasBit(s.Mask, cell) && p[cell] >= target[cell] {
				t.Fatalf("%v %v: less than %d is enough for the cell %d", n, paper, s.Thirds, cell)
			}
		}
	}
}

// TestPromise8Prints: prints that have been made are reached, by no more light than they had.
func TestPromise8Prints(t *testing.T) {
	grids, papers := someGrids(30), somePapers(30)
	for i, made := range someStepLists(400) {
		n, paper := impl.Negative(grids[i%len(grids)]), papers[i%len(papers)]
		target, _ := impl.PrintFrom(n, paper, made)
		steps, code := impl.StepsFor(n, paper, target)
		same(t, "StepsFor", code, int64(impl.OK))
		if len(steps) > 30 {
			continue
		}
		checkReached(t, n, paper, target, steps)
		had, _ := impl.LightOn(made)
		light, _ := impl.LightOn(steps)
		for cell := range light {
			if light[cell] > max(had[cell], 0) {
				t.Fatalf("the cell %d gets %d, but had %d", cell, light[cell], had[cell])
			}
		}
	}
}

func TestPromise8StepCases(t *testing.T) {
	thirds := impl.Curve{{X: 0, Y: 0}, {X: 36, Y: 36}}
	late := impl.Curve{{X: 35, Y: 0}, {X: 36, Y: 50}, {X: 37, Y: 60}}
	for _, c := range []struct {
		negative   impl.Negative
		paper      impl.Curve
		target     impl.Print
		want       []impl.Step
		code       int64
		whyThatOne string
	}{
		{flat(20), examplePaper(), with(flat(40), 0, 70), []impl.Step{{Mask: allCells - 1, Thirds: 6}, {Mask: 1, Thirds: 9}}, impl.OK, "the example"},
		{flat(20), examplePaper(), flat(0), []impl.Step{{Mask: allCells, Thirds: 0}}, impl.OK, "no density needs a step as well"},
		{flat(400), examplePaper(), flat(0), []impl.Step{{Mask: allCells, Thirds: 0}}, impl.OK, "no density below a dark negative"},
		{flat(0), impl.Curve{{X: 0, Y: 9}}, flat(9), []impl.Step{{Mask: allCells, Thirds: 0}}, impl.OK, "a paper that is dark at once"},
		{flat(0), impl.Curve{{X: 0, Y: 9}}, flat(10), nil, impl.ErrNotFound, "a paper that is not dark enough"},
		{flat(0), late, flat(50), []impl.Step{{Mask: allCells, Thirds: 36}}, impl.OK, "the most thirds"},
		{flat(0), late, flat(1), []impl.Step{{Mask: allCells, Thirds: 36}}, impl.OK, "more than is needed"},
		{flat(0), late, flat(51), nil, impl.ErrNotFound, "just more than the most thirds make"},
		{flat(4), late, flat(50), []impl.Step{{Mask: allCells, Thirds: 36}}, impl.OK, "hardly held back"},
		{flat(5), late, flat(50), nil, impl.ErrNotFound, "held back by one third"},
		{flat(0), late, with(flat(0), 0, 51), nil, impl.ErrNotFound, "the first cell alone"},
		{flat(0), late, with(flat(0), 63, 51), nil, impl.ErrNotFound, "the last cell alone"},
		{flat(0), late, with(flat(0), 63, 50), []impl.Step{{Mask: allCells >> 1, Thirds: 0}, {Mask: 1 << 63, Thirds: 36}}, impl.OK, "the last cell later"},
		{with(flat(0), 0, 360), thirds, flat(0), []impl.Step{{Mask: allCells, Thirds: 0}}, impl.OK, "one dark cell"},
		{with(flat(0), 7, 350), thirds, flat(1), []impl.Step{{Mask: allCells - 128, Thirds: 1}, {Mask: 128, Thirds: 36}}, impl.OK, "one cell that is held back"},
		{with(flat(0), 7, 355), thirds, flat(1), nil, impl.ErrNotFound, "one cell that is held back too much"},
	} {
		steps, code := impl.StepsFor(c.negative, c.paper, c.target)
		wantSteps(t, c.whyThatOne, steps, code, c.want, c.code)
	}
}

// TestPromise8ManySteps has targets that need as many different thirds as steps may be, and more, up to all there are.
func TestPromise8ManySteps(t *testing.T) {
	paper := impl.Curve{{X: 0, Y: 0}, {X: 36, Y: 36}}
	for kinds := 1; kinds <= 37; kinds++ {
		target := impl.Print{}
		for cell := range target {
			target[cell] = int16(cell % kinds)
		}
		steps, code := impl.StepsFor(flat(0), paper, target)
		same(t, "StepsFor", []int64{int64(len(steps)), code}, []int64{int64(kinds), impl.OK})
		for thirds, s := range steps {
			same(t, "the thirds", s.Thirds, int8(thirds))
		}
		p, code := impl.PrintFrom(flat(0), paper, steps)
		if kinds > 30 {
			same(t, "ValidSteps", impl.ValidSteps(steps), false)
			same(t, "PrintFrom", code, int64(impl.ErrInvalid))
			continue
		}
		same(t, "PrintFrom", p, target)
		same(t, "PrintFrom", code, int64(impl.OK))
	}
}

// TestPromise8Dodged tries all thirds for some masks.
func TestPromise8Dodged(t *testing.T) {
	for _, mask := range []uint64{noCells, allCells, 1, 1 << 63, 0xff, 0x0123456789abcdef} {
		for thirds := int64(0); thirds <= 36; thirds++ {
			for other := int64(0); other <= 36; other++ {
				steps, code := impl.BurnSteps(thirds, mask, other)
				wantSteps(t, "BurnSteps", steps, code, []impl.Step{{Mask: allCells, Thirds: int8(thirds)}, {Mask: mask, Thirds: int8(other)}}, impl.OK)
				steps, code = impl.DodgeSteps(thirds, mask, other)
				if other >= thirds {
					wantSteps(t, "DodgeSteps", steps, code, nil, impl.ErrRange)
					continue
				}
				wantSteps(t, "DodgeSteps", steps, code, []impl.Step{{Mask: allCells - mask, Thirds: int8(thirds)}, {Mask: mask, Thirds: int8(other)}}, impl.OK)
				light, _ := impl.LightOn(steps)
				for cell := range light {
					want := thirds
					if hasBit(mask, cell) {
						want = other
					}
					same(t, "LightOn", light[cell], want)
				}
			}
		}
	}
}

// shorterBy leaves a step away when it is joined, and looks at the cells one by one.
func shorterBy(steps []impl.Step) []impl.Step {
	left := []impl.Step{}
	for _, s := range steps {
		joined := s.Mask == 0
		for i := 0; i < len(left) && !joined; i++ {
			shared := false
			for cell := range 64 {
				shared = shared || hasBit(left[i].Mask, cell) && hasBit(s.Mask, cell)
			}
			if left[i].Thirds == s.Thirds && !shared {
				left[i].Mask += s.Mask
				joined = true
			}
		}
		if !joined {
			left = append(left, s)
		}
	}
	return left
}

func TestPromise8Shorter(t *testing.T) {
	for _, steps := range someStepLists(2000) {
		shorter, code := impl.ShorterSteps(steps)
		wantSteps(t, "ShorterSteps", shorter, code, shorterBy(steps), impl.OK)
		same(t, "ValidSteps", impl.ValidSteps(shorter), true)
		before, _ := impl.TimesOn(steps)
		behind, _ := impl.TimesOn(shorter)
		same(t, "TimesOn", behind, before)
	}
}

func TestPromise8ShorterCases(t *testing.T) {
	for _, c := range []struct {
		steps, want []impl.Step
		whyThatOne  string
	}{
		{nil, nil, "no steps"},
		{repeated(30, noCells, 36), nil, "no cells at all"},
		{[]impl.Step{{Mask: 1, Thirds: 2}, {Mask: 0, Thirds: 5}, {Mask: 2, Thirds: 2}}, []impl.Step{{Mask: 3, Thirds: 2}}, "one without cells"},
		{repeated(30, allCells, 36), repeated(30, allCells, 36), "all of the same cells"},
		{[]impl.Step{{Mask: 1, Thirds: 2}, {Mask: 2, Thirds: 3}}, []impl.Step{{Mask: 1, Thirds: 2}, {Mask: 2, Thirds: 3}}, "other thirds"},
		{[]impl.Step{{Mask: 1, Thirds: 2}, {Mask: 8, Thirds: 9}, {Mask: 2, Thirds: 2}}, []impl.Step{{Mask: 3, Thirds: 2}, {Mask: 8, Thirds: 9}}, "another one between"},
		{[]impl.Step{{Mask: 3, Thirds: 2}, {Mask: 2, Thirds: 2}, {Mask: 4, Thirds: 2}}, []impl.Step{{Mask: 7, Thirds: 2}, {Mask: 2, Thirds: 2}}, "the first one of two"},
		{[]impl.Step{{Mask: 3, Thirds: 2}, {Mask: 2, Thirds: 2}, {Mask: 1, Thirds: 2}}, []impl.Step{{Mask: 3, Thirds: 2}, {Mask: 3, Thirds: 2}}, "the second one of two"},
		{[]impl.Step{{Mask: 1, Thirds: 2}, {Mask: 2, Thirds: 2}, {Mask: 2, Thirds: 2}}, []impl.Step{{Mask: 3, Thirds: 2}, {Mask: 2, Thirds: 2}}, "cells that have been joined"},
		{[]impl.Step{{Mask: 1 << 63, Thirds: 0}, {Mask: 1, Thirds: 0}}, []impl.Step{{Mask: 1<<63 | 1, Thirds: 0}}, "the last cell ahead of the first one"},
	} {
		steps, code := impl.ShorterSteps(c.steps)
		wantSteps(t, c.whyThatOne, steps, code, c.want, impl.OK)
	}
}
