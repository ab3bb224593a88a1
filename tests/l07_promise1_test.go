package tests

import (
	"math"
	"slices"
	"strings"
	"testing"

	"loop.example/g01301/impl"
)

// TestPromise1SheetInt8 holds validity against its definition for each Across, and for each number of frames.
func TestPromise1SheetInt8(t *testing.T) {
	for across := math.MinInt8; across <= math.MaxInt8; across++ {
		for count := range 30 {
			checkSheet(t, framed(int8(across), count))
		}
	}
	same(t, "limits", []int64{impl.MaxFrames, impl.MaxCopies}, []int64{12, 8})
}

// TestPromise1FrameInt16 has densities at the limits and far outside, in the first frame, in one in the middle and in the last one.
func TestPromise1FrameInt16(t *testing.T) {
	densities := []int16{math.MinInt16, math.MinInt16 + 1, -401, -400, -256, -255, -2, -1, 0, 1, 399, 400, 401, 402, 511, 512, 656, 657, math.MaxInt16 - 1, math.MaxInt16}
	for _, density := range densities {
		for _, frame := range []int{0, 5, 11} {
			for cell := range 64 {
				s := framed(5, 12)
				s.Frames[frame] = with(s.Frames[frame], cell, density)
				checkSheet(t, s)
			}
		}
	}
}

// checkSheet also holds that all functions agree on what is valid.
func checkSheet(t *testing.T, s impl.Sheet) {
	t.Helper()
	valid := isSheet(s)
	if impl.ValidSheet(s) != valid {
		t.Fatalf("ValidSheet of %d frames across %d: want %v", len(s.Frames), s.Across, valid)
	}
	for name, c := range callsOfSheets() {
		if got := c.call(s, 0); (got.code == impl.ErrInvalid) == valid || !valid && !got.zero {
			t.Fatalf("%s of %d frames across %d: that it is valid is %v, but got %d", name, len(s.Frames), s.Across, valid, got.code)
		}
	}
}

// sheetCall calls a function with a number; if this does not fit, code is the error.
type sheetCall struct {
	code int64
	fits func(s impl.Sheet, n int64) bool
	call func(s impl.Sheet, n int64) outcome
}

func anyNumber(impl.Sheet, int64) bool {
	return true
}

func isFrame(s impl.Sheet, n int64) bool {
	return n >= 0 && n < int64(len(s.Frames))
}

func isColumn(s impl.Sheet, n int64) bool {
	return isFrame(s, n) && n < int64(s.Across)
}

func isRow(s impl.Sheet, n int64) bool {
	return n >= 0 && n < 12 && isFrame(s, n*int64(s.Across))
}

func hasFrames(s impl.Sheet, _ int64) bool {
	return len(s.Frames) > 0
}

// callsOfSheets are the functions with sheets; those without a number take all numbers.
func callsOfSheets() map[string]sheetCall {
	return map[string]sheetCall{
		"RowsOf":       {impl.OK, anyNumber, func(s impl.Sheet, _ int64) outcome { return outcomeOf(impl.RowsOf(s)) }},
		"PlaceOf":      {impl.ErrRange, isFrame, func(s impl.Sheet, n int64) outcome { return outcomeOf(impl.PlaceOf(s, n)) }},
		"FrameAt":      {impl.ErrNotFound, isColumn, func(s impl.Sheet, n int64) outcome { return outcomeOf(impl.FrameAt(s, n, 0)) }},
		"FrameAt row":  {impl.ErrNotFound, isRow, func(s impl.Sheet, n int64) outcome { return outcomeOf(impl.FrameAt(s, 0, n)) }},
		"SwapFrames i": {impl.ErrRange, isFrame, func(s impl.Sheet, n int64) outcome { return outcomeOf(impl.SwapFrames(s, n, 0)) }},
		"SwapFrames k": {impl.ErrRange, isFrame, func(s impl.Sheet, n int64) outcome { return outcomeOf(impl.SwapFrames(s, 0, n)) }},
		"SwapFrames":   {impl.ErrRange, isFrame, func(s impl.Sheet, n int64) outcome { return outcomeOf(impl.SwapFrames(s, n, n)) }},
		"DropFrame":    {impl.ErrRange, isFrame, func(s impl.Sheet, n int64) outcome { return outcomeOf(impl.DropFrame(s, n)) }},
		"PickFrames": {impl.ErrRange, isFrame, func(s impl.Sheet, n int64) outcome {
			return outcomeOf(impl.PickFrames(s, []int64{n}))
		}},
		"PickFrames at last": {impl.ErrRange, isFrame, func(s impl.Sheet, n int64) outcome {
			return outcomeOf(impl.PickFrames(s, []int64{0, 0, n}))
		}},
		"PickFrames none": {impl.OK, anyNumber, func(s impl.Sheet, _ int64) outcome { return outcomeOf(impl.PickFrames(s, nil)) }},
		"DarkestFrame":    {impl.ErrNotFound, hasFrames, func(s impl.Sheet, _ int64) outcome { return outcomeOf(impl.DarkestFrame(s)) }},
	}
}

// sheetEdges are limits of the chapter, their neighbours, and numbers that wrap around to small ones.
func sheetEdges() []int64 {
	return append(append(edgeNumbers(), edgePlaces()...), -1<<62, -1<<61, 12, 13, 14, 15, 16, 62, 63, 64, 65, 1<<61, 1<<62, 1<<62+1, 1<<63-4)
}

func TestPromise1SheetRanges(t *testing.T) {
	for _, s := range []impl.Sheet{framed(1, 0), framed(1, 1), framed(1, 12), framed(12, 12), framed(5, 7), framed(4, 12), framed(12, 1)} {
		for name, c := range callsOfSheets() {
			for _, n := range sheetEdges() {
				got, fits := c.call(s, n), c.fits(s, n)
				if fits && got.code != impl.OK || !fits && (got.code != c.code || !got.zero) {
					t.Fatalf("%s %d of %d frames across %d: got %s %d", name, n, len(s.Frames), s.Across, got.results, got.code)
				}
			}
		}
	}
}

// TestPromise1InvalidSheets gives numbers and lists that are wrong as well, because ErrInvalid comes first.
func TestPromise1InvalidSheets(t *testing.T) {
	for which, bad := range invalidSheets() {
		same(t, which, impl.ValidSheet(bad), false)
		for name, c := range callsOfSheets() {
			for _, n := range []int64{math.MinInt64, -1, 0, 1, 11, 12, 13, math.MaxInt64} {
				wantOutcome(t, name+" "+which, c.call(bad, n), impl.ErrInvalid)
			}
		}
		wantOutcome(t, which, outcomeOf(impl.PickFrames(bad, make([]int64, 13))), impl.ErrInvalid)
		wantOutcome(t, which, outcomeOf(impl.PickFrames(bad, slices.Repeat([]int64{-1}, 13))), impl.ErrInvalid)
	}
	for _, s := range validSheets() {
		same(t, "ValidSheet", impl.ValidSheet(s), true)
	}
}

// copiesCall calls a function with a number, which has to be low to high.
type copiesCall struct {
	low, high int64
	call      func(copies []impl.Print, n int64) outcome
}

// callsOfCopies are the functions with copies; those without a number take all numbers.
func callsOfCopies() map[string]copiesCall {
	before, least, most := impl.Print(flat(50)), int64(math.MinInt64), int64(math.MaxInt64)
	return map[string]copiesCall{
		"MedianPrint":  {least, most, func(c []impl.Print, _ int64) outcome { return outcomeOf(impl.MedianPrint(c)) }},
		"DustIn":       {0, 400, func(c []impl.Print, n int64) outcome { return outcomeOf(impl.DustIn(c, 0, n)) }},
		"DustIn last":  {0, 400, func(c []impl.Print, n int64) outcome { return outcomeOf(impl.DustIn(c, int64(len(c)-1), n)) }},
		"DustIn index": {0, 2, func(c []impl.Print, n int64) outcome { return outcomeOf(impl.DustIn(c, n, 0)) }},
		"DustIn, too":  {0, 2, func(c []impl.Print, n int64) outcome { return outcomeOf(impl.DustIn(c, n, 400)) }},
		"ScratchIn":    {0, 400, func(c []impl.Print, n int64) outcome { return outcomeOf(impl.ScratchIn(before, c, n)) }},
		"CleanestCopy": {0, 400, func(c []impl.Print, n int64) outcome { return outcomeOf(impl.CleanestCopy(c, n)) }},
		"BestOfCopies": {0, 400, func(c []impl.Print, n int64) outcome { return outcomeOf(impl.BestOfCopies(c, n)) }},
		"FewestCopies": {0, 400, func(c []impl.Print, n int64) outcome { return outcomeOf(impl.FewestCopies(c, n)) }},
	}
}

func TestPromise1CopyRanges(t *testing.T) {
	for _, copies := range [][]impl.Print{stack(50, 60, 70), stack(0, 400, 0), {numbered(), flat(0), flat(400)}} {
		for name, c := range callsOfCopies() {
			for _, n := range sheetEdges() {
				checkRange(t, name, c.call(copies, n), n >= c.low && n <= c.high)
			}
		}
	}
}

// TestPromise1CopyCounts has no copies, as many as can be, and more.
func TestPromise1CopyCounts(t *testing.T) {
	for count := range 40 {
		copies := stack(slices.Repeat([]int16{50}, count)...)
		for name, c := range callsOfCopies() {
			checkRange(t, name, c.call(copies, 0), count >= 1 && count <= 8)
		}
		for _, i := range []int64{-1, 0, int64(count) - 1, int64(count), 7, 8, math.MinInt64, math.MaxInt64} {
			fits := count <= 8 && i >= 0 && i < int64(count)
			checkRange(t, "DustIn", outcomeOf(impl.DustIn(copies, i, 5)), fits)
		}
	}
	for _, none := range [][]impl.Print{nil, {}, stack(50, 60)[:0]} {
		for name, c := range callsOfCopies() {
			wantOutcome(t, name, c.call(none, 0), impl.ErrRange)
			wantOutcome(t, name, c.call(none, -1), impl.ErrRange)
		}
	}
}

// TestPromise1InvalidCopies has one such copy among others, as many as can be, or too many, and numbers that are out of range.
func TestPromise1InvalidCopies(t *testing.T) {
	for which, bad := range invalidGrids() {
		for count := range 10 {
			for place := range count + 1 {
				copies := slices.Insert(stack(slices.Repeat([]int16{50}, count)...), place, impl.Print(bad))
				for name, c := range callsOfCopies() {
					for _, n := range []int64{0, 400, 401, math.MinInt64, math.MaxInt64} {
						wantOutcome(t, name+" "+which, c.call(copies, n), impl.ErrInvalid)
					}
				}
			}
		}
		for _, copies := range [][]impl.Print{nil, stack(50), stack(50, 60), make([]impl.Print, 9), {bad}} {
			for _, within := range []int64{0, 400, -1, 401, math.MinInt64, math.MaxInt64} {
				wantOutcome(t, which, outcomeOf(impl.ScratchIn(bad, copies, within)), impl.ErrInvalid)
			}
		}
		for _, mask := range []uint64{noCells, allCells, 1, 512, allCells &^ 1} {
			wantOutcome(t, which, outcomeOf(impl.RepairCells(bad, mask)), impl.ErrInvalid)
		}
	}
}

// TestPromise1InvalidUnderMask has a cell that is not valid, although it would be repaired.
func TestPromise1InvalidUnderMask(t *testing.T) {
	for cell := range 64 {
		for _, density := range []int16{math.MinInt16, -1, 401, math.MaxInt16} {
			for _, mask := range []uint64{1 << cell, ^uint64(1 << cell), 1 << ((cell + 1) % 64)} {
				wantOutcome(t, "RepairCells", outcomeOf(impl.RepairCells(dusted(50, density, cell), mask)), impl.ErrInvalid)
			}
		}
	}
}

// TestPromise1SheetOrder has arguments with two errors, of which the first one counts.
func TestPromise1SheetOrder(t *testing.T) {
	s := framed(5, 7)
	for which, got := range map[string]outcome{
		"PickFrames, none and too many":         outcomeOf(impl.PickFrames(s, append(make([]int64, 13), 7))),
		"PickFrames of nothing, too many":       outcomeOf(impl.PickFrames(framed(5, 0), make([]int64, 13))),
		"SwapFrames, both":                      outcomeOf(impl.SwapFrames(s, -1, 7)),
		"SwapFrames of nothing":                 outcomeOf(impl.SwapFrames(framed(5, 0), 0, 0)),
		"DropFrame of nothing":                  outcomeOf(impl.DropFrame(framed(5, 0), 0)),
		"DustIn, too many and no copy":          outcomeOf(impl.DustIn(make([]impl.Print, 9), 9, 401)),
		"DustIn, no copies and no copy":         outcomeOf(impl.DustIn(nil, 0, 0)),
		"DustIn, within and no copy":            outcomeOf(impl.DustIn(stack(50), 1, -1)),
		"FewestCopies, too many and within":     outcomeOf(impl.FewestCopies(make([]impl.Print, 9), -1)),
		"BestOfCopies, no copies and within":    outcomeOf(impl.BestOfCopies(nil, 401)),
		"ScratchIn, no copies and a print":      outcomeOf(impl.ScratchIn(flat(50), nil, 0)),
		"ScratchIn, too many copies":            outcomeOf(impl.ScratchIn(flat(50), make([]impl.Print, 9), 0)),
		"CleanestCopy, too many that are clean": outcomeOf(impl.CleanestCopy(make([]impl.Print, 9), 0)),
	} {
		wantOutcome(t, which, got, impl.ErrRange)
	}
	wantOutcome(t, "PickFrames", outcomeOf(impl.PickFrames(s, make([]int64, 13))), impl.ErrLimit)
	wantOutcome(t, "RepairCells", outcomeOf(impl.RepairCells(flat(0), allCells)), impl.ErrNotFound)
	wantOutcome(t, "GreatestSpot", outcomeOf(impl.GreatestSpot(noCells)), impl.ErrNotFound)
	wantOutcome(t, "RoundsFor", outcomeOf(impl.RoundsFor(allCells)), impl.ErrNotFound)
}

// TestPromise1SameSheet also has sheets that are not valid.
func TestPromise1SameSheet(t *testing.T) {
	all := append(someInvalidSheets(), validSheets()...)
	for _, a := range all {
		other := impl.Sheet{Across: a.Across, Frames: slices.Clone(a.Frames)}
		same(t, "SameSheet", impl.SameSheet(a, other), true)
		for _, b := range all {
			same(t, "SameSheet", impl.SameSheet(a, b), a.Across == b.Across && slices.Equal(a.Frames, b.Frames))
		}
		same(t, "SameSheet across more", impl.SameSheet(a, impl.Sheet{Across: a.Across + 1, Frames: a.Frames}), false)
		for i := range a.Frames {
			for _, cell := range []int{0, 27, 63} {
				other.Frames[i][cell]++
				same(t, "SameSheet with another density", impl.SameSheet(a, other), false)
				other.Frames[i][cell]--
			}
			begun := impl.Sheet{Across: a.Across, Frames: a.Frames[:i]}
			same(t, "SameSheet of the beginning", impl.SameSheet(begun, a), false)
			same(t, "SameSheet with the beginning", impl.SameSheet(a, begun), false)
		}
	}
	for _, frames := range [][]impl.Print{nil, {}, stack(5)[:0]} {
		same(t, "SameSheet without frames", impl.SameSheet(impl.Sheet{Across: 3, Frames: frames}, impl.Sheet{Across: 3}), true)
		same(t, "SameSheet without frames", impl.SameSheet(impl.Sheet{Across: 3}, impl.Sheet{Across: 3, Frames: frames}), true)
		same(t, "SameSheet without frames", impl.SameSheet(impl.Sheet{Frames: frames}, impl.Sheet{}), true)
		same(t, "SameSheet without frames", impl.SameSheet(impl.Sheet{Across: 3, Frames: frames}, sheetWith(3, 0)), false)
	}
}

// TestPromise1SheetsHuge gives lists and texts with a million elements.
func TestPromise1SheetsHuge(t *testing.T) {
	const million = 1000000
	prints := make([]impl.Print, million/64)
	same(t, "ValidSheet", impl.ValidSheet(impl.Sheet{Across: 4, Frames: prints}), false)
	same(t, "SameSheet", impl.SameSheet(impl.Sheet{Frames: prints}, impl.Sheet{Frames: slices.Clone(prints)}), true)
	same(t, "SameSheet", impl.SameSheet(impl.Sheet{Frames: prints}, impl.Sheet{Frames: prints[1:]}), false)
	for name, c := range callsOfSheets() {
		wantOutcome(t, name, c.call(impl.Sheet{Across: 4, Frames: prints}, 0), impl.ErrInvalid)
	}
	for name, c := range callsOfCopies() {
		wantOutcome(t, name, c.call(prints, 0), impl.ErrRange)
	}
	prints[len(prints)-1][63] = -1
	for name, c := range callsOfCopies() {
		wantOutcome(t, name, c.call(prints, 0), impl.ErrInvalid)
	}
	list := make([]int64, million)
	wantOutcome(t, "PickFrames", outcomeOf(impl.PickFrames(framed(5, 7), list)), impl.ErrLimit)
	list[million-1] = 7
	wantOutcome(t, "PickFrames", outcomeOf(impl.PickFrames(framed(5, 7), list)), impl.ErrRange)
	for _, part := range []string{"\n", "#", ".", ".......#\n", "########", "\x00", "\xff", "x"} {
		text := strings.Repeat(part, million/len(part))
		for _, start := range []string{"", "#", "........\n", impl.MaskText(11)} {
			wantOutcome(t, "ReadMask", outcomeOf(impl.ReadMask(start+text)), impl.ErrSyntax)
			wantOutcome(t, "ReadMask", outcomeOf(impl.ReadMask(text+start)), impl.ErrSyntax)
		}
	}
}

// markedPrints returns prints with unused capacity, which has marks that have to stay, and all of its memory.
func markedPrints(prints []impl.Print) ([]impl.Print, []impl.Print) {
	whole := append(slices.Clone(prints), stack(7, -7, 70, 401, 0, 7, 7, 7, 7, 7, 7, 7, 7, 7, 7)...)
	return whole[:len(prints)], whole
}

// TestPromise1SheetArguments: all arguments stay as they are, behind their ends too.
func TestPromise1SheetArguments(t *testing.T) {
	for _, given := range append(someInvalidSheets(), validSheets()...) {
		frames, whole := markedPrints(given.Frames)
		s, kept := impl.Sheet{Across: given.Across, Frames: frames}, slices.Clone(whole)
		count := int64(len(frames))
		impl.ValidSheet(s)
		impl.SameSheet(s, s)
		for name, c := range callsOfSheets() {
			for _, n := range []int64{-1, 0, 1, count / 2, count - 2, count - 1, count} {
				c.call(s, n)
				same(t, name, slices.Equal(whole, kept), true)
			}
		}
		impl.SwapFrames(s, 0, count-1)
		impl.PickFrames(s, []int64{count - 1, 0})
		same(t, "frames", slices.Equal(whole, kept), true)
	}
	list := []int64{3, 1, 2, 6, 0, 5, 4, 7, -1, 9, 9, 9, 9, 9, 9, 9}
	kept := slices.Clone(list)
	for count := range list {
		impl.PickFrames(framed(5, 7), list[:count])
	}
	same(t, "list", list, kept)
}

// TestPromise1CopyArguments also has lists whose copies are not in the order of their densities.
func TestPromise1CopyArguments(t *testing.T) {
	for _, given := range someCopies(60) {
		copies, whole := markedPrints(given)
		kept := slices.Clone(whole)
		for name, c := range callsOfCopies() {
			for _, n := range []int64{-1, 0, 1, 2, 7, 20, 400, 401} {
				c.call(copies, n)
				same(t, name, slices.Equal(whole, kept), true)
			}
		}
	}
}

// TestPromise1SheetResults changes each list that is returned, and all behind it, and calls again.
func TestPromise1SheetResults(t *testing.T) {
	mark := impl.Print(flat(77))
	framesOf := func(s impl.Sheet, code int64) ([]impl.Print, int64) { return s.Frames, code }
	for _, s := range []impl.Sheet{framed(5, 1), framed(5, 2), framed(5, 7), framed(3, 12)} {
		frames, whole := markedPrints(s.Frames)
		given, kept, last := impl.Sheet{Across: s.Across, Frames: frames}, slices.Clone(whole), int64(len(frames)-1)
		all := []int64{}
		for i := range frames {
			all = append(all, int64(i))
		}
		for name, call := range map[string]func() ([]impl.Print, int64){
			"SwapFrames":            func() ([]impl.Print, int64) { return framesOf(impl.SwapFrames(given, 0, last)) },
			"SwapFrames of one":     func() ([]impl.Print, int64) { return framesOf(impl.SwapFrames(given, 0, 0)) },
			"DropFrame":             func() ([]impl.Print, int64) { return framesOf(impl.DropFrame(given, 0)) },
			"DropFrame of the last": func() ([]impl.Print, int64) { return framesOf(impl.DropFrame(given, last)) },
			"PickFrames":            func() ([]impl.Print, int64) { return framesOf(impl.PickFrames(given, all)) },
			"PickFrames of one":     func() ([]impl.Print, int64) { return framesOf(impl.PickFrames(given, all[:1])) },
			"PickFrames of none":    func() ([]impl.Print, int64) { return framesOf(impl.PickFrames(given, nil)) },
		} {
			checkFresh(t, name, call, mark)
			same(t, name, slices.Equal(whole, kept), true)
		}
	}
	for _, mask := range someMasks(50) {
		checkFresh(t, "SpotsOf", func() ([]uint64, int64) { return impl.SpotsOf(mask), impl.OK }, 77)
	}
	for _, copies := range someCopies(50) {
		for _, within := range []int64{0, 5, 400} {
			checkFresh(t, "FewestCopies", func() ([]int64, int64) { return impl.FewestCopies(copies, within) }, -77)
		}
	}
}

// TestPromise1SheetsAgain calls with equal arguments, one after the other, forth and back, so that nothing is kept between calls.
func TestPromise1SheetsAgain(t *testing.T) {
	lists := someCopies(60)
	for name, c := range callsOfCopies() {
		for _, n := range []int64{0, 1, 5, 50, 400} {
			found := []outcome{}
			for _, copies := range lists {
				found = append(found, c.call(copies, n))
			}
			for i := len(lists) - 1; i >= 0; i-- {
				same(t, name, c.call(slices.Clone(lists[i]), n), found[i])
			}
		}
	}
	for _, s := range allSheets() {
		for name, c := range callsOfSheets() {
			for _, n := range []int64{0, 1, 11, 12} {
				first := c.call(impl.Sheet{Across: s.Across, Frames: slices.Clone(s.Frames)}, n)
				same(t, name, c.call(s, n), first)
			}
		}
	}
	for _, mask := range someMasks(200) {
		same(t, "SpotsOf", impl.SpotsOf(mask), impl.SpotsOf(mask))
		same(t, "RepairCells", outcomeOf(impl.RepairCells(numbered(), mask)), outcomeOf(impl.RepairCells(numbered(), mask)))
		same(t, "RoundsFor", outcomeOf(impl.RoundsFor(mask)), outcomeOf(impl.RoundsFor(mask)))
		same(t, "GreatestSpot", outcomeOf(impl.GreatestSpot(mask)), outcomeOf(impl.GreatestSpot(mask)))
	}
}
