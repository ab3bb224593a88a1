package tests

import (
	"slices"
	"testing"

	"loop.example/g01301/impl"
)

func isBetween(t *testing.T, what string, n, code, low, high int64) {
	t.Helper()
	if code != impl.OK || n < low || n > high {
		t.Fatalf("%s: got %d %d, which is not between %d and %d", what, n, code, low, high)
	}
}

// TestPromise14Between: means and the median lie between the least and the greatest reading.
func TestPromise14Between(t *testing.T) {
	for _, s := range someScenes(300) {
		low, high, code := impl.SceneRange(s)
		same(t, "SceneRange", code, int64(impl.OK))
		for name, call := range map[string]func(impl.Scene) (int64, int64){
			"MeanReading": impl.MeanReading, "WeightedReading": impl.WeightedReading, "MedianReading": impl.MedianReading,
		} {
			n, code := call(s)
			isBetween(t, name, n, code, low, high)
		}
		for _, field := range someFields(60) {
			list := readingsIn(s, field)
			n, code := impl.FieldMean(s, field)
			isBetween(t, "FieldMean of the field", n, code, slices.Min(list), slices.Max(list))
			isBetween(t, "FieldMean", n, code, low, high)
		}
	}
}

// TestPromise14Means has all means by their definition.
func TestPromise14Means(t *testing.T) {
	for _, s := range someScenes(300) {
		wantNumbers(t, "MeanReading", numbersOf(impl.MeanReading(s)), meanOf(readingsIn(s, wholeField)), impl.OK)
		for _, field := range someFields(60) {
			wantNumbers(t, "FieldMean", numbersOf(impl.FieldMean(s, field)), meanOf(readingsIn(s, field)), impl.OK)
		}
		list := []int64{}
		for y := range 4 {
			for x := range 6 {
				times := 1
				if x >= 1 && x <= 4 && (y == 1 || y == 2) {
					times = 3
				}
				list = append(list, slices.Repeat([]int64{int64(s[x+6*y])}, times)...)
			}
		}
		same(t, "what is weighted", len(list), 40)
		wantNumbers(t, "WeightedReading", numbersOf(impl.WeightedReading(s)), meanOf(list), impl.OK)
	}
}

// TestPromise14EachCell has one cell that differs: it counts in all fields that it is in.
func TestPromise14EachCell(t *testing.T) {
	for cell := range 24 {
		s := at(even(0), 60, cell)
		wantNumbers(t, "MeanReading", numbersOf(impl.MeanReading(s)), 2, impl.OK)
		weighted := int64(1)
		if slices.Contains([]int{7, 8, 9, 10, 13, 14, 15, 16}, cell) {
			weighted = 4
		}
		wantNumbers(t, "WeightedReading", numbersOf(impl.WeightedReading(s)), weighted, impl.OK)
		wantNumbers(t, "its own field", numbersOf(impl.FieldMean(s, 1<<cell)), 60, impl.OK)
		wantNumbers(t, "all others", numbersOf(impl.FieldMean(s, wholeField&^(1<<cell))), 0, impl.OK)
		wantNumbers(t, "all", numbersOf(impl.FieldMean(s, wholeField)), 2, impl.OK)
		for other := range 24 {
			want := int64(30)
			if other == cell {
				want = 60
			}
			wantNumbers(t, "two", numbersOf(impl.FieldMean(s, 1<<cell|1<<other)), want, impl.OK)
		}
	}
}

// TestPromise14Rests has all sums of all cells, and those of few cells: all that is left over is rounded down.
func TestPromise14Rests(t *testing.T) {
	s := even(0)
	for sum := int64(0); sum <= 24*60; sum++ {
		wantNumbers(t, "MeanReading", numbersOf(impl.MeanReading(s)), floorBy(sum, 24), impl.OK)
		wantNumbers(t, "FieldMean", numbersOf(impl.FieldMean(s, wholeField)), floorBy(sum, 24), impl.OK)
		if sum < 24*60 {
			s[sum%24]++
		}
	}
	for cells := int64(1); cells <= 24; cells++ {
		for rest := range cells {
			field := uint32(1)<<cells - 1
			wantNumbers(t, "FieldMean with a rest", numbersOf(impl.FieldMean(halves(31, 30, int(rest)), field)), 30, impl.OK)
			wantNumbers(t, "FieldMean without", numbersOf(impl.FieldMean(halves(31, 30, int(cells)), field)), 31, impl.OK)
		}
	}
}

func TestPromise14MeanCases(t *testing.T) {
	for _, c := range []struct {
		s                      impl.Scene
		mean, weighted, median int64
		whyThatOne             string
	}{
		{exampleScene(), 12, 13, 10, "the example"},
		{even(0), 0, 0, 0, "the least readings"},
		{even(60), 60, 60, 60, "the greatest readings"},
		{at(even(0), 23, 0), 0, 0, 0, "one less than the number of cells"},
		{at(even(0), 24, 0), 1, 0, 0, "just the number of cells"},
		{at(even(0), 39, 0), 1, 0, 0, "one less than what is weighted"},
		{at(even(0), 40, 0), 1, 1, 0, "just what is weighted"},
		{at(even(0), 13, 7), 0, 0, 0, "less than what is weighted, thrice"},
		{at(even(0), 14, 7), 0, 1, 0, "more than what is weighted, thrice"},
		{at(even(60), 59, 0), 59, 59, 60, "one less than the greatest sum"},
		{at(even(60), 0, 7, 8, 9, 10, 13, 14, 15, 16), 40, 24, 60, "a dark middle"},
		{at(even(0), 60, 7, 8, 9, 10, 13, 14, 15, 16), 20, 36, 0, "a bright middle"},
		{counted(0, 1), 11, 11, 11, "rising"},
		{counted(23, -1), 11, 11, 11, "falling"},
		{halves(20, 40, 12), 30, 30, 20, "the twelfth one is the last dark one"},
		{halves(20, 40, 11), 30, 30, 40, "the twelfth one is the first bright one"},
		{halves(40, 20, 12), 30, 30, 20, "bright ones first"},
		{halves(40, 20, 13), 30, 30, 40, "bright ones first, one more"},
		{at(at(even(7), 3, 0, 1, 2, 3, 4), 50, 18, 19, 20, 21, 22, 23), 16, 12, 7, "equal ones in the middle"},
		{at(at(even(7), 3, 0, 1, 2, 3, 4, 5, 6, 7, 8, 9, 10), 50, 12, 13, 14, 15, 16, 17, 18, 19, 20, 21, 22, 23), 26, 26, 7, "one alone in the middle"},
	} {
		wantNumbers(t, c.whyThatOne+", the mean", numbersOf(impl.MeanReading(c.s)), c.mean, impl.OK)
		wantNumbers(t, c.whyThatOne+", weighted", numbersOf(impl.WeightedReading(c.s)), c.weighted, impl.OK)
		wantNumbers(t, c.whyThatOne+", the median", numbersOf(impl.MedianReading(c.s)), c.median, impl.OK)
	}
}

func TestPromise14FieldCases(t *testing.T) {
	for _, c := range []struct {
		field      uint32
		want, code int64
		whyThatOne string
	}{
		{1, 10, impl.OK, "the first cell"},
		{1 << 23, 40, impl.OK, "the last cell"},
		{1<<9 | 1<<23, 30, impl.OK, "two cells"},
		{1<<8 | 1<<9, 15, impl.OK, "two that leave no rest"},
		{1<<7 | 1<<8 | 1<<9, 13, impl.OK, "three that leave one"},
		{1<<8 | 1<<9 | 1<<10, 16, impl.OK, "three that leave two"},
		{wholeField, 12, impl.OK, "all cells"},
		{0, 0, impl.ErrState, "no cell"},
		{1 << 24, 0, impl.ErrRange, "a bit that is no cell, alone"},
		{1<<24 | 1, 0, impl.ErrRange, "a bit that is no cell, with a cell"},
		{1 << 31, 0, impl.ErrRange, "the last bit"},
		{wholeField | 1<<24, 0, impl.ErrRange, "all cells and a bit"},
		{1<<32 - 1, 0, impl.ErrRange, "all bits"},
	} {
		wantNumbers(t, c.whyThatOne, numbersOf(impl.FieldMean(exampleScene(), c.field)), c.want, c.code)
	}
}

// TestPromise14Parted: each cell is in just one of the fields that are alike, and these are ordered by their least cells.
func TestPromise14Parted(t *testing.T) {
	for _, s := range someScenes(200) {
		for within := int64(0); within <= 60; within += 1 + within/8 {
			fields, code := impl.AlikeFields(s, within)
			if code != impl.OK || len(fields) == 0 {
				t.Fatalf("AlikeFields %v %d: got %x %d", s, within, fields, code)
			}
			owner := [24]int{}
			for cell := range owner {
				owner[cell] = -1
			}
			for i, field := range fields {
				for cell := range owner {
					if !hasBit(uint64(field), cell) {
						continue
					}
					if owner[cell] != -1 {
						t.Fatalf("AlikeFields %v %d: %d is in several of %x", s, within, cell, fields)
					}
					owner[cell] = i
				}
				if field == 0 || field > wholeField {
					t.Fatalf("AlikeFields %v %d: got %x", s, within, fields)
				}
			}
			checkOwners(t, s, within, owner)
		}
	}
}

func checkOwners(t *testing.T, s impl.Scene, within int64, owner [24]int) {
	t.Helper()
	greatest := -1
	for cell, i := range owner {
		if i == -1 || i > greatest+1 {
			t.Fatalf("AlikeFields %v %d: %d is in no field, or these are not ordered: %v", s, within, cell, owner)
		}
		greatest = max(greatest, i)
	}
	for _, pair := range sidesOf() {
		gap := int64(s[pair[0]]) - int64(s[pair[1]])
		if max(gap, -gap) <= within && owner[pair[0]] != owner[pair[1]] {
			t.Fatalf("AlikeFields %v %d: %v are alike, but %v", s, within, pair, owner)
		}
	}
}

// TestPromise14AlikeByNumbers also holds that cells that are not alike, not even from cell to cell, are not together.
func TestPromise14AlikeByNumbers(t *testing.T) {
	for _, s := range someScenes(200) {
		for within := int64(0); within <= 60; within++ {
			fields, code := impl.AlikeFields(s, within)
			wantFields(t, "AlikeFields", fields, code, alikeBy(s, within), impl.OK)
		}
	}
}

func singleFields() []uint32 {
	list := []uint32{}
	for cell := range 24 {
		list = append(list, 1<<cell)
	}
	return list
}

func TestPromise14AlikeCases(t *testing.T) {
	snake := at(even(0), 60, 0, 1, 2, 3, 4, 10, 16, 15, 14, 13, 12, 18, 19, 20, 21, 22, 23)
	for _, c := range []struct {
		s          impl.Scene
		within     int64
		want       []uint32
		whyThatOne string
	}{
		{exampleScene(), 0, []uint32{0x7e79ff, 0x18600, 1 << 23}, "only equal ones"},
		{exampleScene(), 9, []uint32{0x7e79ff, 0x18600, 1 << 23}, "just less than a difference"},
		{exampleScene(), 10, []uint32{0x7fffff, 1 << 23}, "just a difference"},
		{exampleScene(), 29, []uint32{0x7fffff, 1 << 23}, "just less than the corner"},
		{exampleScene(), 30, []uint32{wholeField}, "just the corner"},
		{exampleScene(), 60, []uint32{wholeField}, "all that there can be"},
		{even(0), 0, []uint32{wholeField}, "all equal, the least"},
		{even(60), 0, []uint32{wholeField}, "all equal, the greatest"},
		{counted(0, 1), 0, singleFields(), "all different"},
		{counted(0, 1), 1, []uint32{0x3f, 0x3f << 6, 0x3f << 12, 0x3f << 18}, "from cell to cell, but no row to the next one"},
		{counted(0, 1), 5, []uint32{0x3f, 0x3f << 6, 0x3f << 12, 0x3f << 18}, "just less than from row to row"},
		{counted(0, 1), 6, []uint32{wholeField}, "from row to row"},
		{halves(0, 60, 6), 59, []uint32{0x3f, 0xffffc0}, "one less than all"},
		{halves(0, 60, 6), 60, []uint32{wholeField}, "just all"},
		{at(even(0), 60, 5, 6), 0, []uint32{0xffff9f, 1 << 5, 1 << 6}, "the ends of two rows"},
		{at(even(0), 60, 11, 12), 0, []uint32{0xffe7ff, 1 << 11, 1 << 12}, "the ends of the rows in the middle"},
		{at(even(0), 60, 17, 18), 0, []uint32{0xf9ffff, 1 << 17, 1 << 18}, "the ends of the last rows"},
		{at(even(0), 60, 5, 11, 6, 12), 0, []uint32{0xffe79f, 0x820, 0x1040}, "the ends of two rows, twice"},
		{at(even(0), 60, 0, 7), 0, []uint32{1, 0xffff7e, 1 << 7}, "corner to corner"},
		{at(even(0), 60, 1, 6), 0, []uint32{1, 2, 0xffffbc, 1 << 6}, "a corner that is cut off"},
		{snake, 0, []uint32{0xfdf41f, 0x20820, 0x3c0}, "a field that goes back and forth"},
		{at(even(30), 31, 1, 3, 5, 6, 8, 10, 13, 15, 17, 18, 20, 22), 0, singleFields(), "a checkerboard"},
		{at(even(30), 31, 1, 3, 5, 6, 8, 10, 13, 15, 17, 18, 20, 22), 1, []uint32{wholeField}, "a checkerboard that is alike"},
		{at(even(50), 9, 7, 8, 9, 10, 13, 14, 15, 16), 0, []uint32{0xfe187f, 0x1e780}, "a field around another one"},
		{at(even(7), 40, 1, 7, 13, 19, 3, 9, 15, 21, 5, 11, 17, 23), 32, []uint32{0x41041, 0x82082, 0x104104, 0x208208, 0x410410, 0x820820}, "columns"},
		{impl.Scene{0, 2, 4, 6, 8, 10, 22, 20, 18, 16, 14, 12, 24, 26, 28, 30, 32, 34, 46, 44, 42, 40, 38, 36}, 2, []uint32{wholeField}, "a way through all cells"},
		{impl.Scene{0, 2, 4, 6, 8, 10, 22, 20, 18, 16, 14, 13, 24, 26, 28, 30, 32, 34, 46, 44, 42, 40, 38, 36}, 2, []uint32{0x3f, 0xffffc0}, "a way with a gap"},
	} {
		fields, code := impl.AlikeFields(c.s, c.within)
		wantFields(t, c.whyThatOne, fields, code, c.want, impl.OK)
	}
}
