package tests

import (
	"testing"

	"loop.example/g01301/impl"
)

// TestMasksOfRectangles tries all rectangles there are.
func TestMasksOfRectangles(t *testing.T) {
	for rectangle := range 8 * 8 * 8 * 8 {
		west, north, east, south := rectangle%8, rectangle/8%8, rectangle/64%8, rectangle/512
		if west > east || north > south {
			wantOutcome(t, "MaskOf", outcomeOf(impl.MaskOf(int64(west), int64(north), int64(east), int64(south))), impl.ErrRange)
			continue
		}
		mask, code := impl.MaskOf(int64(west), int64(north), int64(east), int64(south))
		same(t, "MaskOf", code, int64(impl.OK))
		for y := range 8 {
			for x := range 8 {
				want := x >= west && x <= east && y >= north && y <= south
				if hasBit(mask, x+8*y) != want {
					t.Fatalf("MaskOf %d %d %d %d: got %x, want %v at %d, %d", west, north, east, south, mask, want, x, y)
				}
			}
		}
	}
}

func TestMaskCases(t *testing.T) {
	for _, c := range []struct {
		west, north, east, south int64
		want                     uint64
		code                     int64
	}{
		{0, 0, 1, 1, 771, impl.OK},
		{0, 0, 0, 0, 1, impl.OK},
		{7, 7, 7, 7, 1 << 63, impl.OK},
		{0, 0, 7, 7, allCells, impl.OK},
		{0, 0, 7, 0, 0xff, impl.OK},
		{0, 7, 7, 7, 0xff << 56, impl.OK},
		{0, 0, 0, 7, 0x0101010101010101, impl.OK},
		{7, 0, 7, 7, 0x8080808080808080, impl.OK},
		{3, 1, 4, 2, 0x181800, impl.OK},
		{1, 0, 0, 0, 0, impl.ErrRange},
		{0, 1, 0, 0, 0, impl.ErrRange},
		{-1, 0, 0, 0, 0, impl.ErrRange},
		{0, -1, 0, 0, 0, impl.ErrRange},
		{0, 0, 8, 0, 0, impl.ErrRange},
		{0, 0, 0, 8, 0, impl.ErrRange},
		{8, 0, 8, 0, 0, impl.ErrRange},
	} {
		mask, code := impl.MaskOf(c.west, c.north, c.east, c.south)
		same(t, "MaskOf", mask, c.want)
		same(t, "MaskOf", code, c.code)
	}
}

func wantNegative(t *testing.T, what string, n impl.Negative, code int64, want func(x, y int) int16) {
	t.Helper()
	if code != impl.OK {
		t.Errorf("%s: got the code %d", what, code)
	}
	for y := range 8 {
		for x := range 8 {
			if n[x+8*y] != want(x, y) {
				t.Fatalf("%s: got %d at %d, %d, want %d", what, n[x+8*y], x, y, want(x, y))
			}
		}
	}
}

// TestMirroredTwice has the guarantee of mirrored negatives.
func TestMirroredTwice(t *testing.T) {
	for _, g := range someGrids(100) {
		n := impl.Negative(g)
		mirrored, code := impl.MirrorNegative(n)
		wantNegative(t, "MirrorNegative", mirrored, code, func(x, y int) int16 { return n[7-x+8*y] })
		again, code := impl.MirrorNegative(mirrored)
		wantNegative(t, "mirrored twice", again, code, func(x, y int) int16 { return n[x+8*y] })
	}
}

// TestTurnedFourTimes has the guarantee of turned negatives.
func TestTurnedFourTimes(t *testing.T) {
	for _, g := range someGrids(100) {
		n := impl.Negative(g)
		turned, code := impl.TurnNegative(n)
		wantNegative(t, "TurnNegative", turned, code, func(x, y int) int16 { return n[y+8*(7-x)] })
		turned, code = impl.TurnNegative(turned)
		wantNegative(t, "turned twice", turned, code, func(x, y int) int16 { return n[7-x+8*(7-y)] })
		turned, code = impl.TurnNegative(turned)
		wantNegative(t, "turned three times", turned, code, func(x, y int) int16 { return n[7-y+8*x] })
		turned, code = impl.TurnNegative(turned)
		wantNegative(t, "turned four times", turned, code, func(x, y int) int16 { return n[x+8*y] })
	}
}

// TestTurnedCorners: clockwise, north-west becomes north-east, and so on.
func TestTurnedCorners(t *testing.T) {
	corners := []int{0, 7, 63, 56}
	for i, corner := range corners {
		turned, _ := impl.TurnNegative(with(flat(0), corner, 50))
		same(t, "TurnNegative", turned, impl.Negative(with(flat(0), corners[(i+1)%4], 50)))
	}
	for corner, other := range map[int]int{0: 7, 7: 0, 56: 63, 63: 56, 8: 15, 3: 4} {
		mirrored, _ := impl.MirrorNegative(with(flat(0), corner, 50))
		same(t, "MirrorNegative", mirrored, impl.Negative(with(flat(0), other, 50)))
	}
}

func TestEnlargedParts(t *testing.T) {
	for _, g := range someGrids(20) {
		n := impl.Negative(g)
		for west := range 5 {
			for north := range 5 {
				part, code := impl.EnlargePart(n, int64(west), int64(north))
				wantNegative(t, "EnlargePart", part, code, func(x, y int) int16 { return n[west+x/2+8*(north+y/2)] })
			}
		}
	}
	part, code := impl.EnlargePart(numbered(), 4, 4)
	same(t, "the last part", []int16{part[0], part[1], part[8], part[9], part[2], part[63]}, []int16{217, 217, 217, 217, 223, 379})
	same(t, "the last part", code, int64(impl.OK))
}

// TestMirroredSteps: the steps of a mirrored negative make the mirrored print.
func TestMirroredSteps(t *testing.T) {
	for _, steps := range someStepLists(100) {
		mirrored, code := impl.MirrorSteps(steps)
		same(t, "MirrorSteps", []int64{int64(len(mirrored)), code}, []int64{int64(len(steps)), impl.OK})
		for i, s := range mirrored {
			same(t, "thirds", s.Thirds, steps[i].Thirds)
			for cell := range 64 {
				same(t, "MirrorSteps", hasBit(s.Mask, cell), hasBit(steps[i].Mask, cell/8*8+7-cell%8))
			}
		}
		again, code := impl.MirrorSteps(mirrored)
		wantSteps(t, "mirrored twice", again, code, steps, impl.OK)
		p, _ := impl.PrintFrom(numbered(), exampleCurve(), steps)
		n, _ := impl.MirrorNegative(numbered())
		other, _ := impl.PrintFrom(n, exampleCurve(), mirrored)
		want, _ := impl.MirrorNegative(impl.Negative(p))
		same(t, "the mirrored print", other, impl.Print(want))
	}
}

func TestMirroredStepCases(t *testing.T) {
	steps, code := impl.MirrorSteps([]impl.Step{
		{Mask: 1, Thirds: 2}, {Mask: 0x80, Thirds: 0}, {Mask: 1 << 63, Thirds: 36}, {Mask: 1 << 56, Thirds: 1},
		{Mask: noCells, Thirds: 3}, {Mask: allCells, Thirds: 4}, {Mask: 0x0f00, Thirds: 5}, {Mask: 0x0101010101010101, Thirds: 6},
	})
	wantSteps(t, "MirrorSteps", steps, code, []impl.Step{
		{Mask: 0x80, Thirds: 2}, {Mask: 1, Thirds: 0}, {Mask: 1 << 56, Thirds: 36}, {Mask: 1 << 63, Thirds: 1},
		{Mask: noCells, Thirds: 3}, {Mask: allCells, Thirds: 4}, {Mask: 0xf000, Thirds: 5}, {Mask: 0x8080808080808080, Thirds: 6},
	}, impl.OK)
}

func TestRangesOfPrints(t *testing.T) {
	for _, p := range someGrids(100) {
		least, greatest := int64(400), int64(0)
		for _, density := range p {
			least, greatest = min(least, int64(density)), max(greatest, int64(density))
		}
		low, high, code := impl.RangeOf(p)
		same(t, "RangeOf", []int64{low, high, code}, []int64{least, greatest, impl.OK})
	}
}

func TestDifferences(t *testing.T) {
	grids := someGrids(8)
	for _, a := range grids {
		for _, b := range grids {
			at, by := 0, 0
			for cell := range a {
				if size := int(b[cell]) - int(a[cell]); max(size, -size) > max(by, -by) {
					at, by = cell, size
				}
			}
			gotAt, gotBy, code := impl.GreatestDifference(a, b)
			same(t, "GreatestDifference", []int64{gotAt, gotBy, code}, []int64{int64(at), int64(by), impl.OK})
			for _, within := range []int{0, 1, 15, 200, max(by, -by) - 1, max(by, -by), 399, 400} {
				if within >= 0 {
					checkDiffer(t, a, b, within)
				}
			}
		}
	}
}

func checkDiffer(t *testing.T, a, b grid, within int) {
	t.Helper()
	mask, code := impl.DifferIn(a, b, int64(within))
	same(t, "DifferIn", code, int64(impl.OK))
	for cell := range a {
		size := int(b[cell]) - int(a[cell])
		if hasBit(mask, cell) != (size > within || -size > within) {
			t.Fatalf("DifferIn %d: got %x, but it is %d in the cell %d", within, mask, size, cell)
		}
	}
}

func TestDifferenceCases(t *testing.T) {
	for _, c := range []struct {
		a, b       impl.Print
		within     int64
		mask       uint64
		at, by     int64
		whyThatOne string
	}{
		{flat(7), flat(7), 0, noCells, 0, 0, "no difference"},
		{flat(0), flat(400), 399, allCells, 0, 400, "all that can be"},
		{flat(400), flat(0), 399, allCells, 0, -400, "all that can be, the other way"},
		{flat(400), flat(0), 400, noCells, 0, -400, "just within"},
		{flat(40), with(flat(40), 63, 41), 0, 1 << 63, 63, 1, "the last cell"},
		{flat(40), with(flat(40), 0, 39), 0, 1, 0, -1, "the first cell"},
		{flat(40), with(with(flat(40), 9, 30), 20, 50), 9, 1<<9 | 1<<20, 9, -10, "the first one of two sizes"},
		{flat(40), with(with(flat(40), 9, 50), 20, 30), 10, noCells, 9, 10, "the first one of two sizes, the other way"},
		{flat(40), with(with(flat(40), 9, 50), 20, 29), 10, 1 << 20, 20, -11, "the greater one of two sizes"},
	} {
		mask, code := impl.DifferIn(c.a, c.b, c.within)
		same(t, c.whyThatOne, mask, c.mask)
		same(t, c.whyThatOne, code, int64(impl.OK))
		at, by, code := impl.GreatestDifference(c.a, c.b)
		same(t, c.whyThatOne, []int64{at, by, code}, []int64{c.at, c.by, impl.OK})
	}
}
