package tests

import (
	"fmt"
	"maps"
	"math"
	"math/rand"
	"slices"
	"strings"
	"testing"

	"loop.example/g01301/impl"
)

// wholeField has all cells of a scene, and no other bit.
const wholeField = uint32(0xffffff)

// exampleScene has a bright part and a bright corner.
func exampleScene() impl.Scene {
	return impl.Scene{
		10, 10, 10, 10, 10, 10,
		10, 10, 10, 20, 20, 10,
		10, 10, 10, 20, 20, 10,
		10, 10, 10, 10, 10, 40,
	}
}

// even has the same reading in all cells.
func even(reading int8) impl.Scene {
	s := impl.Scene{}
	for cell := range s {
		s[cell] = reading
	}
	return s
}

// counted has readings that are each greater than the one before by the same number.
func counted(first, each int8) impl.Scene {
	s := impl.Scene{}
	for cell := range s {
		s[cell] = first + each*int8(cell)
	}
	return s
}

// at puts a reading into some cells.
func at(s impl.Scene, reading int8, cells ...int) impl.Scene {
	for _, cell := range cells {
		s[cell] = reading
	}
	return s
}

// halves has one reading in some cells, and the other one in those that follow.
func halves(first, second int8, cells int) impl.Scene {
	s := even(second)
	for cell := range cells {
		s[cell] = first
	}
	return s
}

func validScenes() map[string]impl.Scene {
	return map[string]impl.Scene{
		"all least":       even(0),
		"all 1":           even(1),
		"all 59":          even(59),
		"all greatest":    even(60),
		"the example":     exampleScene(),
		"rising by 1":     counted(0, 1),
		"rising by 2":     counted(14, 2),
		"falling by 2":    counted(60, -2),
		"rising to 60":    counted(37, 1),
		"half and half":   halves(0, 60, 12),
		"eleven are less": halves(20, 40, 11),
		"thirteen less":   halves(20, 40, 13),
		"one at first":    at(even(0), 60, 0),
		"one at last":     at(even(60), 0, 23),
		"a checkerboard":  at(even(30), 31, 1, 3, 5, 6, 8, 10, 13, 15, 17, 18, 20, 22),
		"a ring":          at(even(50), 9, 7, 8, 9, 10, 13, 14, 15, 16),
		"columns":         at(even(7), 40, 1, 7, 13, 19, 3, 9, 15, 21, 5, 11, 17, 23),
		"rows":            at(even(7), 9, 6, 7, 8, 9, 10, 11, 18, 19, 20, 21, 22, 23),
	}
}

func invalidScenes() map[string]impl.Scene {
	scenes := map[string]impl.Scene{
		"all -1": even(-1), "all 61": even(61), "all int8 least": even(math.MinInt8), "all int8 greatest": even(math.MaxInt8),
		"two that are too far": at(even(30), 61, 4, 19), "both ways": at(at(even(30), 61, 0), -1, 23),
	}
	for _, cell := range []int{0, 1, 5, 6, 11, 12, 17, 18, 22, 23} {
		for _, reading := range []int8{math.MinInt8, -1, 61, math.MaxInt8} {
			scenes[fmt.Sprint(reading, " at ", cell)] = at(exampleScene(), reading, cell)
		}
	}
	return scenes
}

// someScenes are the valid scenes above and others, always the same ones in the same order.
func someScenes(others int) []impl.Scene {
	list := []impl.Scene{}
	scenes := validScenes()
	for _, name := range slices.Sorted(maps.Keys(scenes)) {
		list = append(list, scenes[name])
	}
	numbers := rand.New(rand.NewSource(19))
	for range others {
		list = append(list, anyScene(numbers))
	}
	return list
}

// anyScene returns a scene whose readings are close to each other, or far apart.
func anyScene(numbers *rand.Rand) impl.Scene {
	s := impl.Scene{}
	low, width := numbers.Intn(61), 1+numbers.Intn(61)
	if numbers.Intn(3) == 0 {
		width = 1 + width%5
	}
	for cell := range s {
		s[cell] = int8(min(low+numbers.Intn(width), 60))
	}
	return s
}

// someFields have at least one cell, and no bit that is no cell.
func someFields(others int) []uint32 {
	list := []uint32{1, 2, 3, 1 << 5, 1 << 6, 1 << 23, 1<<23 | 1, 1 << 12, 0x3f, 0x3f << 18, 0x41041, 0x820820, wholeField, wholeField &^ 1}
	numbers := rand.New(rand.NewSource(23))
	for len(list) < others {
		mask := numbers.Uint32() & wholeField
		if numbers.Intn(2) == 0 {
			mask &= numbers.Uint32() & numbers.Uint32()
		}
		if mask != 0 {
			list = append(list, mask)
		}
	}
	return list
}

// wrongFields have a bit that is no cell.
func wrongFields() []uint32 {
	return []uint32{1 << 24, 1 << 25, 1 << 31, 1<<24 | 1, 1<<31 | wholeField, 1<<24 | wholeField, 0xff000000, math.MaxUint32, 0xfffffffe}
}

func allPlacements() []impl.Placement {
	list := []impl.Placement{}
	for reading := range int8(61) {
		for zone := range int8(11) {
			list = append(list, impl.Placement{Reading: reading, Zone: zone})
		}
	}
	return list
}

// edgePlacements have the least and the greatest Reading and Zone, those just beside, and some between.
func edgePlacements() []impl.Placement {
	list := []impl.Placement{}
	for _, reading := range []int8{0, 1, 2, 20, 29, 30, 58, 59, 60} {
		for _, zone := range []int8{0, 1, 3, 5, 9, 10} {
			list = append(list, impl.Placement{Reading: reading, Zone: zone})
		}
	}
	return list
}

func invalidPlacements() []impl.Placement {
	return []impl.Placement{
		{Reading: -1}, {Reading: 61}, {Reading: math.MinInt8}, {Reading: math.MaxInt8},
		{Zone: -1}, {Zone: 11}, {Zone: math.MinInt8}, {Zone: math.MaxInt8},
		{Reading: 60, Zone: 11}, {Reading: 61, Zone: 10}, {Reading: -1, Zone: 10}, {Reading: 60, Zone: -1},
		{Reading: -1, Zone: -1}, {Reading: 61, Zone: 11},
		{Reading: math.MinInt8, Zone: math.MinInt8}, {Reading: math.MaxInt8, Zone: math.MaxInt8},
	}
}

func isScene(s impl.Scene) bool {
	for _, reading := range s {
		if reading < 0 || reading > 60 {
			return false
		}
	}
	return true
}

func isPlacement(p impl.Placement) bool {
	return p.Reading >= 0 && p.Reading <= 60 && p.Zone >= 0 && p.Zone <= 10
}

// readingsIn are those of a field, in the order of the cells.
func readingsIn(s impl.Scene, field uint32) []int64 {
	list := []int64{}
	for cell, reading := range s {
		if hasBit(uint64(field), cell) {
			list = append(list, int64(reading))
		}
	}
	return list
}

// meanOf is the mean of numbers, each of which is counted once.
func meanOf(list []int64) int64 {
	sum := int64(0)
	for _, n := range list {
		sum += n
	}
	return floorBy(sum, int64(len(list)))
}

// inOrder counts how many there are of each reading.
func inOrder(s impl.Scene) []int64 {
	list := []int64{}
	for reading := range int8(61) {
		for _, other := range s {
			if other == reading {
				list = append(list, int64(reading))
			}
		}
	}
	return list
}

// zoneBy looks for the zone in whose middle there is a reading that is at most one third away.
func zoneBy(p impl.Placement, reading int64) int64 {
	zone, middle := int64(p.Zone), int64(p.Reading)
	for reading < middle-1 {
		zone, middle = zone-1, middle-3
	}
	for reading > middle+1 {
		zone, middle = zone+1, middle+3
	}
	return zone
}

// offBy returns the cells below the scale and above it.
func offBy(s impl.Scene, p impl.Placement) (uint32, uint32) {
	below, above := uint32(0), uint32(0)
	for cell, reading := range s {
		zone := zoneBy(p, int64(reading))
		if zone < 0 {
			below += 1 << cell
		}
		if zone > 10 {
			above += 1 << cell
		}
	}
	return below, above
}

// cellsIn is how many cells a field has.
func cellsIn(field uint32) int64 {
	count := int64(0)
	for cell := range 32 {
		if hasBit(uint64(field), cell) {
			count++
		}
	}
	return count
}

// sidesOf are all pairs of cells that lie side by side, or one above the other.
func sidesOf() [][2]int {
	pairs := [][2]int{}
	for y := range 4 {
		for x := range 6 {
			if x < 5 {
				pairs = append(pairs, [2]int{6*y + x, 6*y + x + 1})
			}
			if y < 3 {
				pairs = append(pairs, [2]int{6*y + x, 6*y + x + 6})
			}
		}
	}
	return pairs
}

// alikeBy gives each cell the least number of those that are alike, until nothing changes.
func alikeBy(s impl.Scene, within int64) []uint32 {
	numbers := [24]int{}
	for cell := range numbers {
		numbers[cell] = cell
	}
	for changed := true; changed; {
		changed = false
		for _, pair := range sidesOf() {
			a, b := pair[0], pair[1]
			gap := int64(s[a]) - int64(s[b])
			if gap <= within && -gap <= within && numbers[a] != numbers[b] {
				least := min(numbers[a], numbers[b])
				numbers[a], numbers[b] = least, least
				changed = true
			}
		}
	}
	fields := []uint32{}
	for number := range numbers {
		field := uint32(0)
		for cell := range numbers {
			if numbers[cell] == number {
				field |= 1 << cell
			}
		}
		if field != 0 {
			fields = append(fields, field)
		}
	}
	return fields
}

// textBy writes all rows of a scene.
func textBy(s impl.Scene) string {
	rows := []string{}
	for y := range 4 {
		row := s[6*y : 6*y+6]
		rows = append(rows, fmt.Sprintf("%d %d %d %d %d %d", row[0], row[1], row[2], row[3], row[4], row[5]))
	}
	return strings.Join(rows, "/")
}

func wantScene(t *testing.T, what string, s impl.Scene, code int64, want impl.Scene, wantCode int64) {
	t.Helper()
	if s != want || code != wantCode {
		t.Errorf("%q: got %v %d, want %v %d", what, s, code, want, wantCode)
	}
}

func wantPlacement(t *testing.T, what string, p impl.Placement, code int64, want impl.Placement, wantCode int64) {
	t.Helper()
	if p != want || code != wantCode {
		t.Errorf("%s: got %v %d, want %v %d", what, p, code, want, wantCode)
	}
}

func wantSetting(t *testing.T, what string, s impl.Setting, code int64, want impl.Setting, wantCode int64) {
	t.Helper()
	if s != want || code != wantCode {
		t.Errorf("%s: got %v %d, want %v %d", what, s, code, want, wantCode)
	}
}

// wantFields holds a list of fields and its code against what they are to be.
func wantFields(t *testing.T, what string, list []uint32, code int64, want []uint32, wantCode int64) {
	t.Helper()
	if !slices.Equal(list, want) || code != wantCode {
		t.Errorf("%s: got %x %d, want %x %d", what, list, code, want, wantCode)
	}
}
