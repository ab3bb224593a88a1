package tests

import (
	"slices"
	"testing"

	"loop.example/g01301/impl"
)

// TestPromise18Medians has one median for each cell, which is the same in any order of the copies.
func TestPromise18Medians(t *testing.T) {
	for _, copies := range someCopies(600) {
		want := medianBy(copies)
		median, code := impl.MedianPrint(copies)
		wantPrint(t, "MedianPrint", median, code, want, impl.OK)
		other := slices.Clone(copies)
		slices.Reverse(other)
		median, code = impl.MedianPrint(other)
		wantPrint(t, "MedianPrint turned around", median, code, want, impl.OK)
		other = append(slices.Clone(copies[len(copies)/2:]), copies[:len(copies)/2]...)
		median, code = impl.MedianPrint(other)
		wantPrint(t, "MedianPrint moved", median, code, want, impl.OK)
	}
}

func TestPromise18MedianCases(t *testing.T) {
	for _, c := range []struct {
		densities  []int16
		median     int16
		whyThatOne string
	}{
		{[]int16{7}, 7, "one copy"},
		{[]int16{0}, 0, "one that is clear"},
		{[]int16{400}, 400, "one that is dark"},
		{[]int16{10, 20}, 10, "two copies"},
		{[]int16{20, 10}, 10, "two copies, the other way around"},
		{[]int16{0, 400}, 0, "two copies that are far apart"},
		{[]int16{400, 0}, 0, "two copies that are far apart, the other way around"},
		{[]int16{5, 5}, 5, "two equal copies"},
		{[]int16{10, 20, 30}, 20, "three copies"},
		{[]int16{30, 10, 20}, 20, "three copies in another order"},
		{[]int16{10, 10, 30}, 10, "two of three are equal and lower"},
		{[]int16{30, 10, 30}, 30, "two of three are equal and higher"},
		{[]int16{40, 10, 30, 20}, 20, "four copies"},
		{[]int16{10, 20, 21, 400}, 20, "four copies, both in the middle being close"},
		{[]int16{10, 20, 390, 400}, 20, "four copies, both in the middle being far apart"},
		{[]int16{10, 20, 20, 30}, 20, "both in the middle are equal"},
		{[]int16{20, 10, 30, 10}, 10, "two equal ones below"},
		{[]int16{20, 30, 10, 30}, 20, "two equal ones above"},
		{[]int16{10, 10, 10, 30}, 10, "three of four are equal and lower"},
		{[]int16{10, 30, 30, 30}, 30, "three of four are equal and higher"},
		{[]int16{30, 10, 30, 10}, 10, "two and two"},
		{[]int16{5, 4, 3, 2, 1}, 3, "five copies"},
		{[]int16{6, 5, 4, 3, 2, 1}, 3, "six copies"},
		{[]int16{7, 6, 5, 4, 3, 2, 1}, 4, "seven copies"},
		{[]int16{8, 7, 6, 5, 4, 3, 2, 1}, 4, "as many as can be"},
		{[]int16{1, 400, 2, 399, 3, 398, 4, 397}, 4, "as many as can be, low and high"},
		{[]int16{9, 9, 9, 9, 9, 9, 9, 9}, 9, "as many as can be, all equal"},
		{[]int16{0, 0, 0, 0, 400, 400, 400, 400}, 0, "four and four"},
		{[]int16{0, 0, 0, 400, 400, 400, 400, 400}, 400, "three and five"},
		{[]int16{9, 10, 100, 20}, 10, "numbers of other lengths"},
	} {
		median, code := impl.MedianPrint(stack(c.densities...))
		wantPrint(t, c.whyThatOne, median, code, flat(c.median), impl.OK)
	}
}

// TestPromise18MedianOfCells has another median in each cell: none depends on those beside it.
func TestPromise18MedianOfCells(t *testing.T) {
	for cell := range 64 {
		low, middle, high := flat(10), flat(20), flat(30)
		copies := []impl.Print{with(low, cell, 300), with(middle, cell, 200), with(high, cell, 100)}
		median, code := impl.MedianPrint(copies)
		wantPrint(t, "three", median, code, with(flat(20), cell, 200), impl.OK)
		median, code = impl.MedianPrint(copies[:2])
		wantPrint(t, "two", median, code, with(flat(10), cell, 200), impl.OK)
		median, code = impl.MedianPrint(append(copies, with(flat(25), cell, 0)))
		wantPrint(t, "four", median, code, with(flat(20), cell, 100), impl.OK)
	}
}

// TestPromise18Dust: dust is where a copy differs from the median by more than within, and nowhere else.
func TestPromise18Dust(t *testing.T) {
	for _, copies := range someCopies(150) {
		median, _ := impl.MedianPrint(copies)
		for _, within := range someWithins() {
			for i, p := range copies {
				dust, code := impl.DustIn(copies, int64(i), within)
				wantMask(t, "DustIn", dust, code, dustBy(copies, i, within), impl.OK)
				differs, code := impl.DifferIn(p, median, within)
				wantMask(t, "DifferIn", differs, code, dust, impl.OK)
			}
		}
	}
}

func TestPromise18DustCases(t *testing.T) {
	copies := []impl.Print{flat(50), dusted(50, 61, 0), dusted(50, 39, 63), dusted(50, 60, 7), dusted(50, 40, 56)}
	for _, c := range []struct {
		copies     []impl.Print
		i, within  int64
		want       uint64
		whyThatOne string
	}{
		{copies, 0, 10, 0, "none"},
		{copies, 1, 10, marksOf(0), "one more, darker"},
		{copies, 2, 10, marksOf(63), "one more, lighter"},
		{copies, 3, 10, 0, "just within, darker"},
		{copies, 4, 10, 0, "just within, lighter"},
		{copies, 3, 9, marksOf(7), "one more than 9, darker"},
		{copies, 4, 9, marksOf(56), "one more than 9, lighter"},
		{copies, 1, 11, 0, "just within 11, darker"},
		{copies, 2, 11, 0, "just within 11, lighter"},
		{copies, 0, 0, 0, "as the median"},
		{copies, 4, 0, marksOf(56), "any difference"},
		{copies[:1], 0, 0, 0, "one copy is its median"},
		{stack(0, 400), 0, 0, 0, "the lower one of two"},
		{stack(0, 400), 1, 0, allCells, "the higher one of two"},
		{stack(0, 400), 1, 399, allCells, "the higher one, as far as can be"},
		{stack(0, 400), 1, 400, 0, "the higher one, within all densities"},
		{stack(400, 0), 0, 399, allCells, "the higher one, being the first one"},
		{stack(400, 0), 1, 0, 0, "the lower one, being the last one"},
		{stack(10, 20, 80, 90), 1, 0, 0, "the lower one of both in the middle"},
		{stack(10, 20, 80, 90), 2, 59, allCells, "the higher one of both in the middle"},
		{stack(10, 20, 80, 90), 2, 60, 0, "the higher one, just within"},
		{stack(10, 20, 80, 90), 0, 9, allCells, "the lowest one"},
		{stack(10, 20, 80, 90), 0, 10, 0, "the lowest one, just within"},
		{stack(1, 2, 3, 4, 5, 6, 7, 8), 7, 3, allCells, "the last one of eight"},
		{stack(1, 2, 3, 4, 5, 6, 7, 8), 7, 4, 0, "the last one of eight, just within"},
	} {
		dust, code := impl.DustIn(c.copies, c.i, c.within)
		wantMask(t, c.whyThatOne, dust, code, c.want, impl.OK)
	}
}

// TestPromise18DustInEachCell has dust of one cell and of all others.
func TestPromise18DustInEachCell(t *testing.T) {
	for cell := range 64 {
		for _, density := range []int16{49, 51} {
			copies := []impl.Print{flat(50), flat(50), dusted(50, density, cell), with(flat(density), cell, 50)}
			for i, want := range []uint64{0, 0, 1 << cell, ^uint64(1 << cell)} {
				dust, code := impl.DustIn(append(copies, flat(50)), int64(i), 0)
				wantMask(t, "DustIn", dust, code, want, impl.OK)
			}
		}
	}
}

func TestPromise18Scratches(t *testing.T) {
	before := flat(50)
	for _, c := range []struct {
		copies     []impl.Print
		within     int64
		want       uint64
		whyThatOne string
	}{
		{stack(50), 0, 0, "one copy as before"},
		{stack(51), 0, allCells, "one darker copy"},
		{stack(49), 0, allCells, "one lighter copy"},
		{stack(60, 70), 9, allCells, "all darker, by one more"},
		{stack(60, 70), 10, 0, "one just within, darker"},
		{stack(40, 30), 9, allCells, "all lighter, by one more"},
		{stack(40, 30), 10, 0, "one just within, lighter"},
		{stack(70, 60, 70, 70), 10, 0, "darker in all but one"},
		{stack(70, 70, 70, 60), 10, 0, "darker in all but the last one"},
		{stack(60, 70, 70, 70), 10, 0, "darker in all but the first one"},
		{stack(30, 40, 30, 30), 10, 0, "lighter in all but one"},
		{stack(70, 30), 10, 0, "one darker and one lighter"},
		{stack(30, 70), 10, 0, "one lighter and one darker"},
		{stack(70, 70, 30, 70), 10, 0, "lighter in one, darker in all others"},
		{stack(slices.Repeat([]int16{400}, 8)...), 349, allCells, "as many copies as can be, as dark as can be"},
		{stack(slices.Repeat([]int16{400}, 8)...), 350, 0, "as many copies as can be, just within"},
		{stack(0, 0), 49, allCells, "clear copies"},
		{stack(0, 0), 50, 0, "clear copies, just within"},
		{stack(0, 400), 400, 0, "within all densities"},
		{[]impl.Print{dusted(50, 70, 1, 2, 3), dusted(50, 70, 2, 3, 4)}, 10, marksOf(2, 3), "darker cells that all have"},
		{[]impl.Print{dusted(50, 30, 0, 62, 63), dusted(50, 30, 63)}, 10, marksOf(63), "lighter cells that all have"},
		{[]impl.Print{with(dusted(50, 70, 1), 60, 20), with(dusted(50, 80, 1), 60, 30)}, 10, marksOf(1, 60), "darker and lighter cells"},
	} {
		scratch, code := impl.ScratchIn(before, c.copies, c.within)
		wantMask(t, c.whyThatOne, scratch, code, c.want, impl.OK)
	}
	for _, density := range []int16{0, 400} {
		scratch, code := impl.ScratchIn(flat(400-density), stack(density, density), 399)
		wantMask(t, "as far as can be", scratch, code, allCells, impl.OK)
		scratch, code = impl.ScratchIn(flat(400-density), stack(density, density), 400)
		wantMask(t, "within all densities", scratch, code, noCells, impl.OK)
	}
}

// TestPromise18ScratchesBy has all scratches by their definition; what has not been scratched is as before in a copy, or between two.
func TestPromise18ScratchesBy(t *testing.T) {
	for i, copies := range someCopies(200) {
		before := someGrids(40)[i%60]
		if i%2 == 0 {
			before = copies[0]
			copies = copies[len(copies)/2:]
		}
		for _, within := range someWithins() {
			want := uint64(0)
			for cell := range 64 {
				darker, lighter := true, true
				for _, p := range copies {
					darker = darker && int64(p[cell]) > int64(before[cell])+within
					lighter = lighter && int64(p[cell]) < int64(before[cell])-within
				}
				if darker || lighter {
					want |= 1 << cell
				}
			}
			scratch, code := impl.ScratchIn(before, copies, within)
			wantMask(t, "ScratchIn", scratch, code, want, impl.OK)
		}
	}
}

func TestPromise18Cleanest(t *testing.T) {
	for _, c := range []struct {
		copies      []impl.Print
		within      int64
		index, dust int64
		whyThatOne  string
	}{
		{stack(50), 0, 0, 0, "one copy"},
		{stack(50, 50, 50), 0, 0, 0, "equal copies"},
		{stack(90, 50), 0, 1, 0, "the lower one of two"},
		{stack(90, 50), 39, 1, 0, "the lower one of two, by one more"},
		{stack(90, 50), 40, 0, 0, "the first one of two, just within"},
		{stack(10, 90, 80, 20), 0, 3, 0, "the lower one of both in the middle"},
		{[]impl.Print{dusted(50, 90, 9), flat(50), flat(50)}, 10, 1, 0, "the first one without dust"},
		{[]impl.Print{dusted(50, 90, 9), dusted(50, 90, 10), dusted(50, 90, 11)}, 10, 0, 1, "the first one of those with equally many cells"},
		{[]impl.Print{dusted(50, 90, 8, 9), dusted(50, 10, 10), dusted(50, 90, 11)}, 10, 1, 1, "the first one with the fewest cells"},
		{[]impl.Print{dusted(50, 90, 8, 9), dusted(50, 10, 10, 11), dusted(50, 90, 12)}, 10, 2, 1, "the last one"},
		{[]impl.Print{dusted(50, 90, 0), dusted(50, 61, 1, 2), dusted(50, 60, 3, 4, 5)}, 10, 2, 0, "many cells, just within"},
		{[]impl.Print{dusted(50, 90, 0), dusted(50, 61, 1, 2), dusted(50, 60, 3, 4, 5)}, 9, 0, 1, "many cells, by one more"},
		{[]impl.Print{dusted(50, 400, 0), dusted(50, 51, 1, 2), dusted(50, 49, 3, 4)}, 0, 0, 1, "few cells that are far away"},
	} {
		wantNumbers(t, c.whyThatOne, numbersOf(impl.CleanestCopy(c.copies, c.within)), c.index, c.dust, impl.OK)
	}
	for _, copies := range someCopies(150) {
		for _, within := range someWithins() {
			index, fewest := int64(0), int64(65)
			for i, dust := range dustOfAll(copies, within) {
				if count := int64(len(cellsOf(dust))); count < fewest {
					index, fewest = int64(i), count
				}
			}
			wantNumbers(t, "CleanestCopy", numbersOf(impl.CleanestCopy(copies, within)), index, fewest, impl.OK)
		}
	}
}

// TestPromise18Best: the best of copies has no dust where one copy has none, and there is always such a copy.
func TestPromise18Best(t *testing.T) {
	for _, copies := range someCopies(150) {
		for _, within := range someWithins() {
			masks, want, left := dustOfAll(copies, within), medianBy(copies), allCells
			for cell := range 64 {
				for i, p := range copies {
					if !hasBit(masks[i], cell) {
						want[cell], left = p[cell], left&^(1<<cell)
						break
					}
				}
			}
			best, dust, code := impl.BestOfCopies(copies, within)
			wantPrint(t, "BestOfCopies", best, code, want, impl.OK)
			wantMask(t, "BestOfCopies", dust, code, left, impl.OK)
			same(t, "cells in which all have dust", dust, noCells)
			differs, code := impl.DifferIn(best, medianBy(copies), within)
			wantMask(t, "dust in the best one", differs, code, noCells, impl.OK)
		}
	}
}

// TestPromise18BestCases: where the median's density is that of the lower one in the middle alone, this copy has no dust.
func TestPromise18BestCases(t *testing.T) {
	three := []impl.Print{dusted(50, 90, 1, 2), dusted(51, 10, 2, 3), dusted(52, 90, 4)}
	for _, c := range []struct {
		copies     []impl.Print
		within     int64
		want       impl.Print
		whyThatOne string
	}{
		{stack(50), 0, flat(50), "one copy"},
		{stack(50, 90), 0, flat(50), "two copies that have dust or none"},
		{stack(90, 50), 0, flat(50), "two copies that have dust or none, the other way around"},
		{stack(90, 50), 40, flat(90), "the first one that has none, not the median"},
		{stack(10, 20, 80, 90), 0, flat(20), "all have dust but the lower one of both in the middle"},
		{stack(90, 80, 10, 20), 9, flat(20), "all have dust but the lower one in the middle, which is the last one"},
		{stack(90, 80, 10, 20), 10, flat(10), "the lowest one is just within"},
		{stack(90, 80, 10, 20), 60, flat(80), "the higher one in the middle is just within"},
		{stack(90, 80, 10, 20), 70, flat(90), "the highest one is just within"},
		{stack(8, 7, 6, 5, 4, 3, 2, 1), 0, flat(4), "eight copies that have dust, but one"},
		{stack(8, 7, 6, 5, 4, 3, 2, 1), 1, flat(5), "eight copies, one of them being within"},
		{three, 10, with(with(with(flat(50), 1, 51), 2, 52), 4, 50), "cells of three copies"},
	} {
		best, dust, code := impl.BestOfCopies(c.copies, c.within)
		wantPrint(t, c.whyThatOne, best, code, c.want, impl.OK)
		wantMask(t, c.whyThatOne, dust, code, noCells, impl.OK)
	}
}

// fewestBy goes through all lists of one copy, of two, and so on, the first one first.
func fewestBy(masks []uint64) []int64 {
	least := allCells
	for _, dust := range masks {
		least &= dust
	}
	for size := range len(masks) + 1 {
		if list, ok := chooseBy(masks, size, 0, allCells, least); ok {
			return list
		}
	}
	return nil
}

// chooseBy adds copies that are not ahead of from, until there are so many more.
func chooseBy(masks []uint64, size, from int, left, least uint64) ([]int64, bool) {
	if size == 0 {
		return nil, left == least
	}
	for i := from; i < len(masks); i++ {
		if list, ok := chooseBy(masks, size-1, i+1, left&masks[i], least); ok {
			return append([]int64{int64(i)}, list...), true
		}
	}
	return nil, false
}

func TestPromise18Fewest(t *testing.T) {
	sizes := map[int]bool{}
	for _, copies := range someCopies(500) {
		for _, within := range someWithins() {
			want := fewestBy(dustOfAll(copies, within))
			list, code := impl.FewestCopies(copies, within)
			wantList(t, "FewestCopies", list, code, want, impl.OK)
			sizes[len(want)] = true
		}
	}
	for size := 1; size <= 4; size++ {
		same(t, "lists of some copies", sizes[size], true)
	}
}

// apart returns copies of which each one has the median of all in other columns.
func apart(count int) []impl.Print {
	copies := []impl.Print{}
	for i := range count {
		p := impl.Print{}
		for cell := range p {
			p[cell] = int16(100 + 20*((cell+i)%count))
		}
		copies = append(copies, p)
	}
	return copies
}

func TestPromise18FewestCases(t *testing.T) {
	for _, c := range []struct {
		copies     []impl.Print
		within     int64
		want       []int64
		whyThatOne string
	}{
		{stack(50), 0, []int64{0}, "one copy"},
		{stack(50, 50), 0, []int64{0}, "the first one of two equal copies"},
		{stack(90, 50), 0, []int64{1}, "the second one"},
		{stack(90, 50), 40, []int64{0}, "the first one, just within"},
		{[]impl.Print{flat(50), dusted(50, 90, 9), flat(50)}, 10, []int64{0}, "the first one without dust"},
		{[]impl.Print{dusted(50, 90, 9), flat(50), flat(50)}, 10, []int64{1}, "the second one without dust"},
		{[]impl.Print{dusted(50, 90, 9), dusted(50, 90, 10), dusted(50, 90, 11)}, 10, []int64{0, 1}, "two of three, of which any two are enough"},
		{[]impl.Print{dusted(50, 90, 9, 12), dusted(50, 90, 10, 12), dusted(50, 90, 11), flat(50), flat(50)}, 10, []int64{3}, "one is better than two"},
		{[]impl.Print{dusted(50, 90, 9, 12), dusted(50, 90, 10, 12), dusted(50, 90, 11), dusted(50, 90, 13), dusted(50, 90, 14)}, 10, []int64{0, 2}, "the first list of two"},
		{[]impl.Print{dusted(50, 90, 1, 2, 3), dusted(50, 90, 1), dusted(50, 90, 2), dusted(50, 90, 3), dusted(50, 90, 5)}, 10, []int64{0, 4}, "the first and the last one"},
		{[]impl.Print{dusted(50, 90, 1, 2, 3), dusted(50, 90, 1), dusted(50, 90, 2), dusted(50, 90, 3)}, 10, []int64{1, 2}, "without the first one"},
		{[]impl.Print{dusted(50, 90, 9), dusted(50, 90, 9), flat(50), flat(50)}, 10, []int64{2}, "two of four are darker"},
		{[]impl.Print{dusted(50, 10, 9), dusted(50, 10, 9), flat(50), flat(50)}, 10, []int64{0}, "two of four are lighter"},
		{apart(3), 0, []int64{0, 1, 2}, "each one of three is needed"},
		{apart(5), 0, []int64{0, 1, 2, 3, 4}, "each one of five is needed"},
		{apart(8), 0, []int64{0, 1, 2, 3, 4, 5, 6, 7}, "as many as can be, and each one is needed"},
		{apart(8), 20, []int64{0, 2, 5}, "each one of as many as can be is enough for three columns"},
		{apart(8), 400, []int64{0}, "within all densities"},
	} {
		same(t, c.whyThatOne+", by the definition", fewestBy(dustOfAll(c.copies, c.within)), c.want)
		list, code := impl.FewestCopies(c.copies, c.within)
		wantList(t, c.whyThatOne, list, code, c.want, impl.OK)
	}
}

// TestPromise18FewestAreBest: the copies that are enough make a print without dust of all copies.
func TestPromise18FewestAreBest(t *testing.T) {
	for _, copies := range someCopies(200) {
		for _, within := range someWithins() {
			list, code := impl.FewestCopies(copies, within)
			same(t, "FewestCopies", code, int64(impl.OK))
			left := allCells
			for _, i := range list {
				dust, _ := impl.DustIn(copies, i, within)
				left &= dust
			}
			_, dust, _ := impl.BestOfCopies(copies, within)
			same(t, "cells in which they all have dust", left, dust)
		}
	}
}
