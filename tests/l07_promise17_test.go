package tests

import (
	"math"
	"slices"
	"testing"

	"loop.example/g01301/impl"
)

// placeBy counts the frames one by one, and begins a new row behind each one that is full.
func placeBy(across, frame int64) (int64, int64) {
	column, row := int64(0), int64(0)
	for range frame {
		column++
		if column == across {
			column, row = 0, row+1
		}
	}
	return column, row
}

// TestPromise17Places has all numbers of frames and all Across: each frame has its place, and no other one has it.
func TestPromise17Places(t *testing.T) {
	for _, s := range allSheets() {
		across, count, rows := int64(s.Across), int64(len(s.Frames)), int64(0)
		at := map[[2]int64]int64{}
		for frame := range count {
			column, row := placeBy(across, frame)
			wantNumbers(t, "PlaceOf", numbersOf(impl.PlaceOf(s, frame)), column, row, impl.OK)
			at[[2]int64{column, row}], rows = frame, row+1
		}
		same(t, "places", int64(len(at)), count)
		wantNumbers(t, "RowsOf", numbersOf(impl.RowsOf(s)), rows, impl.OK)
		for column := int64(-2); column <= 14; column++ {
			for row := int64(-2); row <= 14; row++ {
				want, wantCode := int64(0), int64(impl.ErrNotFound)
				if frame, ok := at[[2]int64{column, row}]; ok {
					want, wantCode = frame, impl.OK
				}
				wantNumbers(t, "FrameAt", numbersOf(impl.FrameAt(s, column, row)), want, wantCode)
			}
		}
	}
}

func TestPromise17PlaceCases(t *testing.T) {
	for _, c := range []struct {
		across            int8
		count             int
		rows              int64
		frame             int64
		column, row, code int64
		whyThatOne        string
	}{
		{1, 0, 0, 0, 0, 0, impl.ErrRange, "no frame"},
		{12, 0, 0, -1, 0, 0, impl.ErrRange, "no frame, and before it"},
		{1, 1, 1, 0, 0, 0, impl.OK, "one frame"},
		{12, 1, 1, 0, 0, 0, impl.OK, "one frame in a row for twelve"},
		{12, 1, 1, 1, 0, 0, impl.ErrRange, "one behind it"},
		{1, 12, 12, 11, 0, 11, impl.OK, "a column"},
		{12, 12, 1, 11, 11, 0, impl.OK, "a row"},
		{11, 12, 2, 11, 0, 1, impl.OK, "a row and one more"},
		{11, 12, 2, 10, 10, 0, impl.OK, "the end of a row"},
		{4, 12, 3, 11, 3, 2, impl.OK, "full rows"},
		{4, 12, 3, 4, 0, 1, impl.OK, "the beginning of a row"},
		{5, 12, 3, 11, 1, 2, impl.OK, "a shorter last row"},
		{5, 12, 3, 12, 0, 0, impl.ErrRange, "one behind the last one"},
		{5, 12, 3, -1, 0, 0, impl.ErrRange, "one ahead of the first one"},
		{5, 6, 2, 5, 0, 1, impl.OK, "one frame in the last row"},
		{5, 6, 2, 9, 0, 0, impl.ErrRange, "in the empty part of the last row"},
	} {
		s := framed(c.across, c.count)
		wantNumbers(t, c.whyThatOne, numbersOf(impl.RowsOf(s)), c.rows, impl.OK)
		wantNumbers(t, c.whyThatOne, numbersOf(impl.PlaceOf(s, c.frame)), c.column, c.row, c.code)
	}
	s := framed(5, 7)
	for _, c := range []struct {
		column, row, frame, code int64
		whyThatOne               string
	}{
		{0, 0, 0, impl.OK, "the first one"},
		{4, 0, 4, impl.OK, "the end of the first row"},
		{5, 0, 0, impl.ErrNotFound, "behind the end of the first row"},
		{-1, 0, 0, impl.ErrNotFound, "ahead of the first one"},
		{-1, 1, 0, impl.ErrNotFound, "ahead of the second row"},
		{0, 1, 5, impl.OK, "the second row"},
		{1, 1, 6, impl.OK, "the last one"},
		{2, 1, 0, impl.ErrNotFound, "behind the last one"},
		{4, 1, 0, impl.ErrNotFound, "the end of the last row"},
		{0, 2, 0, impl.ErrNotFound, "below the last row"},
		{0, -1, 0, impl.ErrNotFound, "above the first row"},
		{5, -1, 0, impl.ErrNotFound, "what would be the first one"},
		{-5, 1, 0, impl.ErrNotFound, "what would be the first one, too"},
		{6, 0, 0, impl.ErrNotFound, "what would be the last one"},
	} {
		wantNumbers(t, c.whyThatOne, numbersOf(impl.FrameAt(s, c.column, c.row)), c.frame, c.code)
	}
}

// TestPromise17FarPlaces has places that wrap around to those of frames.
func TestPromise17FarPlaces(t *testing.T) {
	numbers := append(edgeNumbers(), -1<<62, -1<<61, -1<<60, 1<<60, 1<<61, 1<<62, 1<<62+1, 1<<63-4, 1<<61+1, 6148914691236517205, 6148914691236517206, 3074457345618258603)
	for _, s := range []impl.Sheet{framed(1, 12), framed(2, 12), framed(3, 12), framed(4, 12), framed(5, 12), framed(8, 12), framed(12, 12), framed(6, 0)} {
		across, count := int64(s.Across), int64(len(s.Frames))
		for _, a := range numbers {
			checkRange(t, "PlaceOf", outcomeOf(impl.PlaceOf(s, a)), a >= 0 && a < count)
			for _, b := range numbers {
				frame, code := impl.FrameAt(s, a, b)
				fits := a >= 0 && a < across && b >= 0 && b < 12 && b*across+a < count
				if fits && (frame != b*across+a || code != impl.OK) || !fits && (frame != 0 || code != impl.ErrNotFound) {
					t.Fatalf("FrameAt %d %d of %d in rows of %d: got %d %d", a, b, count, across, frame, code)
				}
			}
		}
	}
}

// TestPromise17Swapped: both frames have each other's place, and all others their own.
func TestPromise17Swapped(t *testing.T) {
	for _, s := range allSheets() {
		count := int64(len(s.Frames))
		for i := int64(-2); i <= count+1; i++ {
			for k := int64(-2); k <= count+1; k++ {
				swapped, code := impl.SwapFrames(s, i, k)
				if i < 0 || k < 0 || i >= count || k >= count {
					wantSheet(t, "SwapFrames", swapped, code, impl.Sheet{}, impl.ErrRange)
					continue
				}
				want := impl.Sheet{Across: s.Across}
				for frame := range count {
					from := frame
					if frame == i {
						from = k
					} else if frame == k {
						from = i
					}
					want.Frames = append(want.Frames, s.Frames[from])
				}
				wantSheet(t, "SwapFrames", swapped, code, want, impl.OK)
				back, code := impl.SwapFrames(swapped, i, k)
				wantSheet(t, "SwapFrames again", back, code, s, impl.OK)
			}
		}
	}
}

// TestPromise17Dropped: the frames behind it move up, one by one.
func TestPromise17Dropped(t *testing.T) {
	for _, s := range allSheets() {
		count := int64(len(s.Frames))
		for i := int64(-2); i <= count+1; i++ {
			dropped, code := impl.DropFrame(s, i)
			if i < 0 || i >= count {
				wantSheet(t, "DropFrame", dropped, code, impl.Sheet{}, impl.ErrRange)
				continue
			}
			want := impl.Sheet{Across: s.Across}
			for frame, p := range s.Frames {
				if int64(frame) != i {
					want.Frames = append(want.Frames, p)
				}
			}
			wantSheet(t, "DropFrame", dropped, code, want, impl.OK)
			for frame := i + 1; frame < count; frame++ {
				column, row := placeBy(int64(s.Across), frame-1)
				moved, code := impl.FrameAt(dropped, column, row)
				wantNumbers(t, "moved up", []int64{moved, code}, frame-1, impl.OK)
				same(t, "moved up", dropped.Frames[moved], s.Frames[frame])
			}
		}
	}
}

func TestPromise17Picked(t *testing.T) {
	s, many := framed(5, 7), slices.Repeat([]int64{6}, 12)
	for _, c := range []struct {
		list       []int64
		code       int64
		whyThatOne string
	}{
		{nil, impl.OK, "no frame"},
		{[]int64{}, impl.OK, "no frame either"},
		{[]int64{0}, impl.OK, "the first one"},
		{[]int64{6}, impl.OK, "the last one"},
		{[]int64{7}, impl.ErrRange, "one behind the last one"},
		{[]int64{-1}, impl.ErrRange, "one ahead of the first one"},
		{[]int64{0, 1, 2, 3, 4, 5, 6}, impl.OK, "all"},
		{[]int64{6, 5, 4, 3, 2, 1, 0}, impl.OK, "all, the last one first"},
		{[]int64{3, 3, 3}, impl.OK, "one several times"},
		{[]int64{3, 1, 3, 1}, impl.OK, "two several times"},
		{many, impl.OK, "as many as can be"},
		{append(slices.Clone(many), 0), impl.ErrLimit, "one more than can be"},
		{append(slices.Clone(many), 7), impl.ErrRange, "one more than can be, of which one is none"},
		{append([]int64{-1}, many...), impl.ErrRange, "one more than can be, of which the first one is none"},
		{append(slices.Repeat(many, 9), math.MinInt64), impl.ErrRange, "many more than can be, of which one is none"},
		{slices.Repeat(many, 9), impl.ErrLimit, "many more than can be"},
		{[]int64{0, 1, math.MaxInt64}, impl.ErrRange, "the greatest number"},
		{[]int64{math.MinInt64, 0, 1}, impl.ErrRange, "the least number"},
		{[]int64{0, 1 << 32}, impl.ErrRange, "a number that wraps around"},
	} {
		want := impl.Sheet{}
		if c.code == impl.OK {
			want.Across = 5
			for _, i := range c.list {
				want.Frames = append(want.Frames, s.Frames[i])
			}
		}
		picked, code := impl.PickFrames(s, c.list)
		wantSheet(t, c.whyThatOne, picked, code, want, c.code)
	}
}

// TestPromise17PickedSheets also has sheets without a frame, of which none can be picked.
func TestPromise17PickedSheets(t *testing.T) {
	for _, s := range allSheets() {
		all, count := []int64{}, len(s.Frames)
		for i := range count {
			all = append(all, int64(i))
		}
		picked, code := impl.PickFrames(s, all)
		wantSheet(t, "all", picked, code, s, impl.OK)
		picked, code = impl.PickFrames(s, nil)
		wantSheet(t, "none", picked, code, impl.Sheet{Across: s.Across}, impl.OK)
		wantOutcome(t, "one behind all", outcomeOf(impl.PickFrames(s, append(all, int64(count)))), impl.ErrRange)
		for i := range count {
			picked, code := impl.PickFrames(s, slices.Delete(slices.Clone(all), i, i+1))
			dropped, _ := impl.DropFrame(s, int64(i))
			wantSheet(t, "all but one", picked, code, dropped, impl.OK)
		}
	}
}

func TestPromise17Darkest(t *testing.T) {
	all := int64(64)
	for _, c := range []struct {
		s                impl.Sheet
		frame, sum, code int64
		whyThatOne       string
	}{
		{impl.Sheet{Across: 1}, 0, 0, impl.ErrNotFound, "no frame"},
		{impl.Sheet{Across: 12, Frames: []impl.Print{}}, 0, 0, impl.ErrNotFound, "no frame either"},
		{sheetWith(1, 0), 0, 0, impl.OK, "one clear frame"},
		{sheetWith(1, 400), 0, 400 * all, impl.OK, "one frame as dark as can be"},
		{sheetWith(5, 0, 0, 0), 0, 0, impl.OK, "clear frames"},
		{sheetWith(5, 1, 3, 2), 1, 3 * all, impl.OK, "the one in the middle"},
		{sheetWith(5, 1, 2, 3), 2, 3 * all, impl.OK, "the last one"},
		{sheetWith(5, 3, 2, 1), 0, 3 * all, impl.OK, "the first one"},
		{sheetWith(5, 1, 3, 2, 3, 3), 1, 3 * all, impl.OK, "the first one of those that are equal"},
		{sheetWith(5, slices.Repeat([]int16{400}, 12)...), 0, 400 * all, impl.OK, "all as dark as can be"},
		{impl.Sheet{Across: 2, Frames: []impl.Print{dusted(50, 90, 9), dusted(50, 90, 63), dusted(50, 91, 0)}}, 2, 50*63 + 91, impl.OK, "by one"},
		{impl.Sheet{Across: 2, Frames: []impl.Print{dusted(50, 90, 9), dusted(50, 70, 0, 63)}}, 0, 50*63 + 90, impl.OK, "equal sums of other densities"},
		{impl.Sheet{Across: 2, Frames: []impl.Print{dusted(0, 400, 9), dusted(7, 6, 0)}}, 1, 7*64 - 1, impl.OK, "not the one with the darkest cell"},
	} {
		wantNumbers(t, c.whyThatOne, numbersOf(impl.DarkestFrame(c.s)), c.frame, c.sum, c.code)
	}
}

// TestPromise17DarkestOfMany also holds that each cell counts.
func TestPromise17DarkestOfMany(t *testing.T) {
	for _, frames := range someCopies(400) {
		want, most := int64(0), int64(-1)
		for i, p := range frames {
			sum := int64(0)
			for _, density := range p {
				sum += int64(density)
			}
			if sum > most {
				want, most = int64(i), sum
			}
		}
		wantNumbers(t, "DarkestFrame", numbersOf(impl.DarkestFrame(impl.Sheet{Across: 3, Frames: frames})), want, most, impl.OK)
	}
	for cell := range 64 {
		s := impl.Sheet{Across: 4, Frames: []impl.Print{flat(20), dusted(20, 21, cell), dusted(20, 19, cell)}}
		wantNumbers(t, "DarkestFrame by one cell", numbersOf(impl.DarkestFrame(s)), 1, 20*64+1, impl.OK)
	}
}
