package tests

import (
	"fmt"
	"maps"
	"math"
	"math/rand"
	"slices"
	"strings"
	"testing"

	"loop.example/g01301/impl"
)

// framed returns a sheet whose frames are all different.
func framed(across int8, count int) impl.Sheet {
	s := impl.Sheet{Across: across}
	for i := range count {
		s.Frames = append(s.Frames, with(flat(int16(7*i)), i, 300))
	}
	return s
}

// sheetWith returns a sheet whose frames have one density each.
func sheetWith(across int8, densities ...int16) impl.Sheet {
	return impl.Sheet{Across: across, Frames: stack(densities...)}
}

// stack returns prints with one density each.
func stack(densities ...int16) []impl.Print {
	prints := []impl.Print{}
	for _, density := range densities {
		prints = append(prints, flat(density))
	}
	return prints
}

// dusted has one density in some cells, and another one in all others.
func dusted(others, density int16, cells ...int) impl.Print {
	g := flat(others)
	for _, cell := range cells {
		g = with(g, cell, density)
	}
	return g
}

// allSheets have each valid number of frames and each valid Across.
func allSheets() []impl.Sheet {
	list := []impl.Sheet{}
	for across := int8(1); across <= 12; across++ {
		for count := range 13 {
			list = append(list, framed(across, count))
		}
	}
	return list
}

// validSheets also have frames that are equal, as light and as dark as can be.
func validSheets() []impl.Sheet {
	return append(allSheets(),
		impl.Sheet{Across: 5, Frames: []impl.Print{}}, impl.Sheet{Across: 3, Frames: framed(3, 12).Frames[:0]},
		sheetWith(4, 0), sheetWith(4, 400), sheetWith(2, 9, 9, 9), sheetWith(12, slices.Repeat([]int16{400}, 12)...))
}

func invalidSheets() map[string]impl.Sheet {
	sheets := map[string]impl.Sheet{
		"nothing": {}, "across 0": framed(0, 3), "across -1": framed(-1, 3), "across 13": framed(13, 3), "across 13 of 12": framed(13, 12),
		"across least": framed(math.MinInt8, 3), "across greatest": framed(math.MaxInt8, 3), "across -1, empty": framed(-1, 0), "across 13, empty": framed(13, 0),
		"thirteen frames": framed(4, 13), "thirteen frames in a row": framed(12, 13), "many frames": framed(4, 40), "thirteen frames across 13": framed(13, 13),
	}
	for which, bad := range invalidGrids() {
		for _, place := range []int{0, 1, 4, 11} {
			s := framed(5, 12)
			s.Frames[place] = bad
			sheets[fmt.Sprint(which, " in the frame ", place)] = s
		}
		sheets[which+" alone"] = impl.Sheet{Across: 1, Frames: []impl.Print{bad}}
		sheets[which+" as one too many"] = impl.Sheet{Across: 1, Frames: append(framed(1, 12).Frames, bad)}
	}
	return sheets
}

// someInvalidSheets are every fifth one of them, always the same ones in the same order.
func someInvalidSheets() []impl.Sheet {
	list, sheets := []impl.Sheet{}, invalidSheets()
	for i, which := range slices.Sorted(maps.Keys(sheets)) {
		if i%5 == 0 {
			list = append(list, sheets[which])
		}
	}
	return list
}

// isSheet and isPrint hold a sheet and a print against the definition of what is valid.
func isSheet(s impl.Sheet) bool {
	for _, p := range s.Frames {
		if !isPrint(p) {
			return false
		}
	}
	return s.Across >= 1 && s.Across <= 12 && len(s.Frames) <= 12
}

func isPrint(p impl.Print) bool {
	for _, density := range p {
		if density < 0 || density > 400 {
			return false
		}
	}
	return true
}

func wantSheet(t *testing.T, what string, s impl.Sheet, code int64, want impl.Sheet, wantCode int64) {
	t.Helper()
	if s.Across != want.Across || !slices.Equal(s.Frames, want.Frames) || code != wantCode {
		t.Errorf("%s: got %v %d, want %v %d", what, s, code, want, wantCode)
	}
}

func wantPrint(t *testing.T, what string, p impl.Print, code int64, want impl.Print, wantCode int64) {
	t.Helper()
	if p != want || code != wantCode {
		t.Errorf("%s: got %v %d, want %v %d", what, p, code, want, wantCode)
	}
}

func wantMask(t *testing.T, what string, mask uint64, code int64, want uint64, wantCode int64) {
	t.Helper()
	if mask != want || code != wantCode {
		t.Errorf("%s: got %x %d, want %x %d", what, mask, code, want, wantCode)
	}
}

// marksOf has a bit for each of some cells.
func marksOf(cells ...int) uint64 {
	mask := uint64(0)
	for _, cell := range cells {
		mask |= 1 << cell
	}
	return mask
}

// drawn reads a picture of a mask, whose rows have blanks between them.
func drawn(picture string) uint64 {
	mask := uint64(0)
	for cell, mark := range strings.ReplaceAll(picture, " ", "") {
		if mark == '#' {
			mask |= 1 << cell
		}
	}
	return mask
}

func cellsOf(mask uint64) []int {
	cells := []int{}
	for cell := range 64 {
		if hasBit(mask, cell) {
			cells = append(cells, cell)
		}
	}
	return cells
}

// besideBy are the neighbours of a cell, by its place.
func besideBy(cell int) []int {
	list, x, y := []int{}, cell%8, cell/8
	for _, by := range [][2]int{{0, -1}, {-1, 0}, {1, 0}, {0, 1}} {
		if i, k := x+by[0], y+by[1]; i >= 0 && i <= 7 && k >= 0 && k <= 7 {
			list = append(list, 8*k+i)
		}
	}
	return list
}

func grownBy(mask uint64) uint64 {
	grown := mask
	for _, cell := range cellsOf(mask) {
		grown |= marksOf(besideBy(cell)...)
	}
	return grown
}

// spotsBy gives each cell the least number of those that it is reached from, until nothing changes.
func spotsBy(mask uint64) []uint64 {
	numbers := map[int]int{}
	for _, cell := range cellsOf(mask) {
		numbers[cell] = cell
	}
	for changed := true; changed; {
		changed = false
		for _, cell := range cellsOf(mask) {
			for _, other := range besideBy(cell) {
				if number, ok := numbers[other]; ok && number < numbers[cell] {
					numbers[cell], changed = number, true
				}
			}
		}
	}
	spots := []uint64{}
	for number := range 64 {
		spot := uint64(0)
		for cell, least := range numbers {
			if least == number {
				spot |= 1 << cell
			}
		}
		if spot != 0 {
			spots = append(spots, spot)
		}
	}
	return spots
}

// repairBy keeps the densities that are known in a map, and looks up those of neighbours.
func repairBy(p impl.Print, mask uint64) (impl.Print, int64) {
	known, rounds := map[int]int64{}, int64(0)
	for cell, density := range p {
		if !hasBit(mask, cell) {
			known[cell] = int64(density)
		}
	}
	for len(known) < 64 {
		next := maps.Clone(known)
		for cell := range 64 {
			sum, count := int64(0), int64(0)
			for _, other := range besideBy(cell) {
				if density, ok := known[other]; ok {
					sum, count = sum+density, count+1
				}
			}
			if _, ok := known[cell]; !ok && count > 0 {
				next[cell] = floorBy(sum, count)
			}
		}
		known, rounds = next, rounds+1
	}
	for cell, density := range known {
		p[cell] = int16(density)
	}
	return p, rounds
}

// medianBy looks for the density of a copy than which fewer than half of all are less, and which half of all are at most.
func medianBy(copies []impl.Print) impl.Print {
	median := impl.Print{}
	for cell := range median {
		for _, p := range copies {
			less, atMost := 0, 0
			for _, other := range copies {
				if other[cell] < p[cell] {
					less++
				}
				if other[cell] <= p[cell] {
					atMost++
				}
			}
			if 2*less < len(copies) && 2*atMost >= len(copies) {
				median[cell] = p[cell]
				break
			}
		}
	}
	return median
}

func dustBy(copies []impl.Print, i int, within int64) uint64 {
	mask, median := uint64(0), medianBy(copies)
	for cell := range 64 {
		gap := int64(copies[i][cell]) - int64(median[cell])
		if gap > within || -gap > within {
			mask |= 1 << cell
		}
	}
	return mask
}

func dustOfAll(copies []impl.Print, within int64) []uint64 {
	masks := []uint64{}
	for i := range copies {
		masks = append(masks, dustBy(copies, i, within))
	}
	return masks
}

// someMasks are those with few cells, with nearly all, with figures, and others, always the same ones in the same order.
func someMasks(others int) []uint64 {
	list := []uint64{noCells, allCells, 11, 3, 1<<7 | 1<<8, 1 | 1<<9, 1<<1 | 1<<8, 0xff, 0xff << 56, 0x0101010101010101, 0x8080808080808080,
		0x55aa55aa55aa55aa, 0xaa55aa55aa55aa55, 0xff818181818181ff, 0x007e424242427e00, 0x003c24243c000000, 0x8142241818244281}
	for cell := range 64 {
		list = append(list, 1<<cell, ^uint64(1<<cell))
	}
	numbers := rand.New(rand.NewSource(29))
	for range others {
		mask := numbers.Uint64()
		switch numbers.Intn(4) {
		case 0:
			mask &= numbers.Uint64()
		case 1:
			mask |= numbers.Uint64()
		case 2:
			mask |= numbers.Uint64() | numbers.Uint64() | numbers.Uint64()
		}
		list = append(list, mask)
	}
	return list
}

// someCopies are lists of copies, always the same ones in the same order.
func someCopies(others int) [][]impl.Print {
	list := [][]impl.Print{
		stack(50), stack(0), stack(400), stack(0, 400), stack(400, 0), stack(50, 50), stack(10, 20, 30), stack(30, 10, 20), stack(40, 10, 30, 20),
		stack(slices.Repeat([]int16{77}, 8)...), stack(8, 7, 6, 5, 4, 3, 2, 1), {dusted(50, 90, 9), flat(50), flat(50)}, {flat(50), dusted(50, 90, 9), flat(50)},
	}
	numbers := rand.New(rand.NewSource(31))
	for range others {
		list = append(list, anyCopies(numbers))
	}
	return list
}

// anyCopies returns copies with little or much dust, and with few or many different densities.
func anyCopies(numbers *rand.Rand) []impl.Print {
	copies, few := []impl.Print{}, 1+numbers.Intn(7)
	base, noise, dust := anyGrid(numbers, 401), 1+numbers.Intn(20), 1+numbers.Intn(400)
	for count := 1 + numbers.Intn(8); len(copies) < count; {
		p := base
		for cell := range p {
			by := numbers.Intn(noise)
			if numbers.Intn(few) == 0 {
				by += numbers.Intn(dust)
			}
			if numbers.Intn(2) == 0 {
				by = -by
			}
			p[cell] = int16(min(max(int(p[cell])+by, 0), 400))
		}
		copies = append(copies, p)
		if numbers.Intn(5) == 0 && len(copies) < count {
			copies = append(copies, p)
		}
	}
	return copies
}

// someWithins are limits, those just beside, and some between.
func someWithins() []int64 {
	return []int64{0, 1, 2, 5, 9, 10, 11, 19, 20, 50, 100, 200, 399, 400}
}
