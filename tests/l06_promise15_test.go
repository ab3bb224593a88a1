package tests

import (
	"testing"

	"loop.example/g01301/impl"
)

// TestPromise15Placed: a reading that is placed is in its zone, and a zone is a stop wide.
func TestPromise15Placed(t *testing.T) {
	for _, want := range allPlacements() {
		p, code := impl.PlaceFor(int64(want.Reading), int64(want.Zone))
		wantPlacement(t, "PlaceFor", p, code, want, impl.OK)
		wantNumbers(t, "ZoneOf", numbersOf(impl.ZoneOf(p, int64(p.Reading))), int64(p.Zone), impl.OK)
		for thirds := int64(-1); thirds <= 1; thirds++ {
			for zones := int64(-20); zones <= 20; zones++ {
				reading := int64(p.Reading) + 3*zones + thirds
				if reading >= 0 && reading <= 60 {
					wantNumbers(t, "ZoneOf beside", numbersOf(impl.ZoneOf(p, reading)), int64(p.Zone)+zones, impl.OK)
				}
			}
		}
	}
}

// TestPromise15Zones has all readings by all placements.
func TestPromise15Zones(t *testing.T) {
	for _, p := range allPlacements() {
		for reading := int64(0); reading <= 60; reading++ {
			wantNumbers(t, "ZoneOf", numbersOf(impl.ZoneOf(p, reading)), zoneBy(p, reading), impl.OK)
		}
	}
}

func TestPromise15ZoneCases(t *testing.T) {
	for _, c := range []struct {
		p             impl.Placement
		reading, want int64
		whyThatOne    string
	}{
		{impl.Placement{Reading: 20, Zone: 3}, 20, 3, "the placed one"},
		{impl.Placement{Reading: 20, Zone: 3}, 19, 3, "1 less"},
		{impl.Placement{Reading: 20, Zone: 3}, 18, 2, "2 less"},
		{impl.Placement{Reading: 20, Zone: 3}, 17, 2, "3 less"},
		{impl.Placement{Reading: 20, Zone: 3}, 16, 2, "4 less"},
		{impl.Placement{Reading: 20, Zone: 3}, 15, 1, "5 less"},
		{impl.Placement{Reading: 20, Zone: 3}, 21, 3, "1 more"},
		{impl.Placement{Reading: 20, Zone: 3}, 22, 4, "2 more"},
		{impl.Placement{Reading: 20, Zone: 3}, 24, 4, "4 more"},
		{impl.Placement{Reading: 20, Zone: 3}, 25, 5, "5 more"},
		{impl.Placement{Reading: 20, Zone: 3}, 10, 0, "the last one on the scale"},
		{impl.Placement{Reading: 20, Zone: 3}, 9, -1, "the first one below"},
		{impl.Placement{Reading: 20, Zone: 3}, 7, -1, "the last one of the first zone below"},
		{impl.Placement{Reading: 20, Zone: 3}, 6, -2, "the second zone below"},
		{impl.Placement{Reading: 20, Zone: 3}, 0, -4, "the least one"},
		{impl.Placement{Reading: 20, Zone: 3}, 42, 10, "the last one on the scale, from above"},
		{impl.Placement{Reading: 20, Zone: 3}, 43, 11, "the first one above"},
		{impl.Placement{Reading: 20, Zone: 3}, 60, 16, "the greatest one"},
		{impl.Placement{Reading: 2, Zone: 0}, 1, 0, "1 less than black"},
		{impl.Placement{Reading: 2, Zone: 0}, 0, -1, "2 less than black"},
		{impl.Placement{Reading: 58, Zone: 10}, 59, 10, "1 more than white"},
		{impl.Placement{Reading: 58, Zone: 10}, 60, 11, "2 more than white"},
		{impl.Placement{Reading: 60, Zone: 0}, 0, -20, "the least zone"},
		{impl.Placement{Reading: 60, Zone: 0}, 1, -20, "the least zone, 1 more"},
		{impl.Placement{Reading: 60, Zone: 0}, 2, -19, "the least zone, 2 more"},
		{impl.Placement{Reading: 0, Zone: 10}, 60, 30, "the greatest zone"},
		{impl.Placement{Reading: 0, Zone: 10}, 59, 30, "the greatest zone, 1 less"},
		{impl.Placement{Reading: 0, Zone: 10}, 58, 29, "the greatest zone, 2 less"},
		{impl.Placement{Reading: 0, Zone: 0}, 0, 0, "the least placement"},
		{impl.Placement{Reading: 60, Zone: 10}, 60, 10, "the greatest placement"},
		{impl.Placement{Reading: 60, Zone: 10}, 0, -10, "the greatest placement, the least reading"},
	} {
		wantNumbers(t, c.whyThatOne, numbersOf(impl.ZoneOf(c.p, c.reading)), c.want, impl.OK)
	}
}

func TestPromise15PlaceForCases(t *testing.T) {
	for _, c := range []struct {
		reading, zone int64
		want          impl.Placement
		code          int64
	}{
		{0, 0, impl.Placement{}, impl.OK},
		{60, 10, impl.Placement{Reading: 60, Zone: 10}, impl.OK},
		{60, 0, impl.Placement{Reading: 60}, impl.OK},
		{0, 10, impl.Placement{Zone: 10}, impl.OK},
		{20, 3, impl.Placement{Reading: 20, Zone: 3}, impl.OK},
		{-1, 0, impl.Placement{}, impl.ErrRange},
		{61, 0, impl.Placement{}, impl.ErrRange},
		{0, -1, impl.Placement{}, impl.ErrRange},
		{0, 11, impl.Placement{}, impl.ErrRange},
		{256, 3, impl.Placement{}, impl.ErrRange},
		{20, 256, impl.Placement{}, impl.ErrRange},
		{-236, 3, impl.Placement{}, impl.ErrRange},
		{20, 1<<32 + 3, impl.Placement{}, impl.ErrRange},
	} {
		p, code := impl.PlaceFor(c.reading, c.zone)
		wantPlacement(t, "PlaceFor", p, code, c.want, c.code)
	}
}

// TestPromise15SamePlacing: all readings have the zones that they had.
func TestPromise15SamePlacing(t *testing.T) {
	for _, p := range allPlacements() {
		for zone := int64(0); zone <= 10; zone++ {
			reading := int64(p.Reading)
			for from := int64(p.Zone); from < zone; from++ {
				reading += 3
			}
			for from := int64(p.Zone); from > zone; from-- {
				reading -= 3
			}
			moved, code := impl.SamePlacing(p, zone)
			if reading < 0 || reading > 60 {
				wantPlacement(t, "SamePlacing", moved, code, impl.Placement{}, impl.ErrNotFound)
				continue
			}
			wantPlacement(t, "SamePlacing", moved, code, impl.Placement{Reading: int8(reading), Zone: int8(zone)}, impl.OK)
			for other := int64(0); other <= 60; other++ {
				want, _ := impl.ZoneOf(p, other)
				wantNumbers(t, "ZoneOf behind SamePlacing", numbersOf(impl.ZoneOf(moved, other)), want, impl.OK)
			}
			back, code := impl.SamePlacing(moved, int64(p.Zone))
			wantPlacement(t, "SamePlacing back", back, code, p, impl.OK)
		}
	}
}

func TestPromise15SamePlacingCases(t *testing.T) {
	for _, c := range []struct {
		p          impl.Placement
		zone       int64
		want       impl.Placement
		code       int64
		whyThatOne string
	}{
		{impl.Placement{Reading: 20, Zone: 3}, 5, impl.Placement{Reading: 26, Zone: 5}, impl.OK, "the example"},
		{impl.Placement{Reading: 20, Zone: 3}, 3, impl.Placement{Reading: 20, Zone: 3}, impl.OK, "the same zone"},
		{impl.Placement{Reading: 6, Zone: 5}, 3, impl.Placement{Reading: 0, Zone: 3}, impl.OK, "just 0"},
		{impl.Placement{Reading: 7, Zone: 5}, 3, impl.Placement{Reading: 1, Zone: 3}, impl.OK, "just more than 0"},
		{impl.Placement{Reading: 5, Zone: 5}, 3, impl.Placement{}, impl.ErrNotFound, "just less than 0"},
		{impl.Placement{Reading: 54, Zone: 5}, 7, impl.Placement{Reading: 60, Zone: 7}, impl.OK, "just 60"},
		{impl.Placement{Reading: 53, Zone: 5}, 7, impl.Placement{Reading: 59, Zone: 7}, impl.OK, "just less than 60"},
		{impl.Placement{Reading: 55, Zone: 5}, 7, impl.Placement{}, impl.ErrNotFound, "just more than 60"},
		{impl.Placement{Reading: 30, Zone: 0}, 10, impl.Placement{Reading: 60, Zone: 10}, impl.OK, "from black to white"},
		{impl.Placement{Reading: 31, Zone: 0}, 10, impl.Placement{}, impl.ErrNotFound, "from black to white, just too much"},
		{impl.Placement{Reading: 30, Zone: 10}, 0, impl.Placement{Reading: 0, Zone: 0}, impl.OK, "from white to black"},
		{impl.Placement{Reading: 29, Zone: 10}, 0, impl.Placement{}, impl.ErrNotFound, "from white to black, just too little"},
		{impl.Placement{Reading: 60, Zone: 0}, 10, impl.Placement{}, impl.ErrNotFound, "the greatest that would be"},
		{impl.Placement{Reading: 0, Zone: 10}, 0, impl.Placement{}, impl.ErrNotFound, "the least that would be"},
		{impl.Placement{Reading: 20, Zone: 3}, 11, impl.Placement{}, impl.ErrRange, "a zone too many"},
		{impl.Placement{Reading: 20, Zone: 3}, -1, impl.Placement{}, impl.ErrRange, "a zone below black"},
		{impl.Placement{Reading: 60, Zone: 3}, 11, impl.Placement{}, impl.ErrRange, "a zone too many, and too much"},
		{impl.Placement{Reading: 0, Zone: 3}, -1, impl.Placement{}, impl.ErrRange, "a zone below black, and too little"},
	} {
		moved, code := impl.SamePlacing(c.p, c.zone)
		wantPlacement(t, c.whyThatOne, moved, code, c.want, c.code)
	}
}

// TestPromise15Counted: the cells in zones, below and above are all cells.
func TestPromise15Counted(t *testing.T) {
	for _, s := range someScenes(150) {
		for _, p := range edgePlacements() {
			zones, code := impl.ZonesOf(s, p)
			same(t, "ZonesOf", code, int64(impl.OK))
			want := [11]int64{}
			for cell, reading := range s {
				zone := zoneBy(p, int64(reading))
				same(t, "the zone of a cell", int64(zones[cell]), zone)
				if zone >= 0 && zone <= 10 {
					want[zone]++
				}
			}
			wantBelow, wantAbove := offBy(s, p)
			counts, below, above, code := impl.CountZones(s, p)
			same(t, "CountZones", counts, want)
			wantNumbers(t, "CountZones off", []int64{below, above, code}, cellsIn(wantBelow), cellsIn(wantAbove), impl.OK)
			sum := below + above
			for _, count := range counts {
				sum += count
			}
			same(t, "all cells", sum, int64(24))
			belowField, aboveField, code := impl.OffScale(s, p)
			wantFields(t, "OffScale", []uint32{belowField, aboveField}, code, []uint32{wantBelow, wantAbove}, impl.OK)
		}
	}
}

func TestPromise15CountCases(t *testing.T) {
	for _, c := range []struct {
		s            impl.Scene
		p            impl.Placement
		below, above uint32
		zone, count  int64
		whyThatOne   string
	}{
		{exampleScene(), impl.Placement{Reading: 10, Zone: 5}, 0, 1 << 23, 5, 19, "one above"},
		{exampleScene(), impl.Placement{Reading: 40, Zone: 5}, 0x7fffff, 0, 5, 1, "one alone is not below"},
		{exampleScene(), impl.Placement{Reading: 24, Zone: 5}, 0, 0, 10, 1, "none off the scale, the last zone"},
		{exampleScene(), impl.Placement{Reading: 24, Zone: 5}, 0, 0, 0, 19, "none off the scale, the first zone"},
		{exampleScene(), impl.Placement{Reading: 27, Zone: 5}, 0x7e79ff, 0, 3, 4, "the dark ones below"},
		{even(58), impl.Placement{Reading: 60, Zone: 0}, wholeField, 0, 0, 0, "each one just below"},
		{even(59), impl.Placement{Reading: 60, Zone: 0}, 0, 0, 0, 24, "each one just black"},
		{even(2), impl.Placement{Reading: 0, Zone: 10}, 0, wholeField, 10, 0, "each one just above"},
		{even(1), impl.Placement{Reading: 0, Zone: 10}, 0, 0, 10, 24, "each one just white"},
		{even(0), impl.Placement{Reading: 60, Zone: 0}, wholeField, 0, 0, 0, "each one as far below as can be"},
		{even(60), impl.Placement{Reading: 0, Zone: 10}, 0, wholeField, 10, 0, "each one as far above as can be"},
		{even(0), impl.Placement{}, 0, 0, 0, 24, "the least placement, the least readings"},
		{even(60), impl.Placement{Reading: 60, Zone: 10}, 0, 0, 10, 24, "the greatest placement, the greatest readings"},
		{halves(0, 60, 12), impl.Placement{Reading: 30, Zone: 5}, 0xfff, 0xfff000, 5, 0, "each one, below or above"},
		{at(even(30), 0, 0), impl.Placement{Reading: 30, Zone: 5}, 1, 0, 5, 23, "the first cell below"},
		{at(even(30), 60, 23), impl.Placement{Reading: 30, Zone: 5}, 0, 1 << 23, 5, 23, "the last cell above"},
	} {
		below, above, code := impl.OffScale(c.s, c.p)
		wantFields(t, c.whyThatOne, []uint32{below, above}, code, []uint32{c.below, c.above}, impl.OK)
		counts, belowCount, aboveCount, code := impl.CountZones(c.s, c.p)
		wantNumbers(t, c.whyThatOne, []int64{belowCount, aboveCount, code}, cellsIn(c.below), cellsIn(c.above), impl.OK)
		same(t, c.whyThatOne, counts[c.zone], c.count)
	}
}

// TestPromise15Best holds the placement against each other one in the zone 5, as the program counts.
func TestPromise15Best(t *testing.T) {
	for _, s := range someScenes(300) {
		best, few, code := impl.BestPlacement(s)
		if code != impl.OK || best.Zone != 5 || best.Reading < 0 || best.Reading > 60 {
			t.Fatalf("BestPlacement %v: got %v %d %d", s, best, few, code)
		}
		for reading := range int8(61) {
			p := impl.Placement{Reading: reading, Zone: 5}
			_, below, above, code := impl.CountZones(s, p)
			off := below + above
			wrong := off < few || off == few && reading < best.Reading || reading == best.Reading && off != few
			if code != impl.OK || wrong {
				t.Fatalf("BestPlacement %v: got %v %d, but %v has %d", s, best, few, p, off)
			}
		}
	}
}

// TestPromise15BestByReadings goes through the readings from the greatest one on.
func TestPromise15BestByReadings(t *testing.T) {
	for _, s := range someScenes(300) {
		want, few := impl.Placement{}, int64(25)
		for reading := int8(60); reading >= 0; reading-- {
			p := impl.Placement{Reading: reading, Zone: 5}
			below, above := offBy(s, p)
			if off := cellsIn(below | above); off <= few {
				want, few = p, off
			}
		}
		best, off, code := impl.BestPlacement(s)
		wantPlacement(t, "BestPlacement", best, code, want, impl.OK)
		same(t, "how many are off", off, few)
	}
}

func TestPromise15BestCases(t *testing.T) {
	for _, c := range []struct {
		s             impl.Scene
		reading, want int64
		whyThatOne    string
	}{
		{exampleScene(), 24, 0, "the example"},
		{even(0), 0, 0, "all least"},
		{even(16), 0, 0, "just white"},
		{even(17), 1, 0, "just more than white"},
		{even(60), 44, 0, "all greatest"},
		{halves(0, 16, 12), 0, 0, "several that are equally good"},
		{halves(0, 32, 12), 16, 0, "one alone that is best"},
		{halves(0, 33, 12), 0, 12, "none that has all, and as many below as above"},
		{halves(0, 33, 13), 0, 11, "none that has all, more of which are dark"},
		{halves(0, 33, 11), 17, 11, "none that has all, more of which are bright"},
		{halves(0, 60, 12), 0, 12, "far apart, as many below as above"},
		{halves(0, 60, 11), 44, 11, "far apart, more of which are bright"},
		{at(at(even(30), 0, 0), 60, 23), 14, 1, "one has to be off, at the least reading"},
		{at(at(even(33), 0, 0), 60, 23), 44, 1, "one below alone"},
		{at(at(even(28), 0, 0), 60, 23), 12, 1, "one above alone"},
		{at(at(even(32), 0, 0), 60, 23), 16, 1, "one above alone, at last"},
		{counted(0, 1), 7, 0, "rising by 1"},
		{counted(14, 2), 30, 7, "rising by 2, any seventeen of which fit"},
	} {
		best, off, code := impl.BestPlacement(c.s)
		wantPlacement(t, c.whyThatOne, best, code, impl.Placement{Reading: int8(c.reading), Zone: 5}, impl.OK)
		same(t, c.whyThatOne, off, c.want)
	}
}
