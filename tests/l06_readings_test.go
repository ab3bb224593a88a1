package tests

import (
	"testing"

	"loop.example/g01301/impl"
)

// TestReadings has all cells, and those just outside.
func TestReadings(t *testing.T) {
	for _, s := range append(someScenes(20), counted(0, 2)) {
		for y := int64(-2); y <= 5; y++ {
			for x := int64(-2); x <= 7; x++ {
				want, wantCode := int64(0), int64(impl.ErrRange)
				if x >= 0 && x <= 5 && y >= 0 && y <= 3 {
					want, wantCode = int64(s[6*y+x]), impl.OK
				}
				wantNumbers(t, "ReadingAt", numbersOf(impl.ReadingAt(s, x, y)), want, wantCode)
			}
		}
	}
}

func TestReadingCases(t *testing.T) {
	s := counted(0, 1)
	for _, c := range []struct {
		x, y, want, code int64
		whyThatOne       string
	}{
		{0, 0, 0, impl.OK, "the first cell"},
		{5, 0, 5, impl.OK, "the end of the first row"},
		{0, 1, 6, impl.OK, "the next row"},
		{3, 1, 9, impl.OK, "in the middle"},
		{0, 3, 18, impl.OK, "the last row"},
		{5, 3, 23, impl.OK, "the last cell"},
		{6, 0, 0, impl.ErrRange, "behind the first row, though there are such indices"},
		{-1, 1, 0, impl.ErrRange, "ahead of a row, though there are such indices"},
		{6, 3, 0, impl.ErrRange, "behind the last cell"},
		{0, 4, 0, impl.ErrRange, "below the last row"},
		{0, -1, 0, impl.ErrRange, "above the first row"},
		{6, -1, 0, impl.ErrRange, "outside of both, though it makes the first cell"},
		{-6, 1, 0, impl.ErrRange, "outside by a row, though it makes the first cell"},
		{256, 0, 0, impl.ErrRange, "what wraps around to the first cell"},
		{0, 1 << 32, 0, impl.ErrRange, "what wraps around to the first row"},
		{0, 1 << 62, 0, impl.ErrRange, "what wraps around when it is multiplied"},
	} {
		wantNumbers(t, c.whyThatOne, numbersOf(impl.ReadingAt(s, c.x, c.y)), c.want, c.code)
	}
}

// TestOrderedReadings counts readings: for the range, the median, and the contrast of those that are left.
func TestOrderedReadings(t *testing.T) {
	for _, s := range someScenes(300) {
		list := inOrder(s)
		wantNumbers(t, "SceneRange", numbersOf(impl.SceneRange(s)), list[0], list[23], impl.OK)
		wantNumbers(t, "MedianReading", numbersOf(impl.MedianReading(s)), list[11], impl.OK)
		for low := int64(0); low <= 25; low++ {
			for high := int64(0); high <= 25; high++ {
				want, wantCode := int64(0), int64(impl.ErrRange)
				if low+high <= 23 {
					left := list[low : 24-high]
					want, wantCode = left[len(left)-1]-left[0], impl.OK
				}
				wantNumbers(t, "ContrastOf", numbersOf(impl.ContrastOf(s, low, high)), want, wantCode)
			}
		}
	}
}

func TestContrastCases(t *testing.T) {
	for _, c := range []struct {
		s                     impl.Scene
		low, high, want, code int64
		whyThatOne            string
	}{
		{exampleScene(), 0, 0, 30, impl.OK, "all cells"},
		{exampleScene(), 1, 1, 10, impl.OK, "one less of both"},
		{exampleScene(), 0, 1, 10, impl.OK, "the brightest one less"},
		{exampleScene(), 18, 0, 30, impl.OK, "one of equal dark ones is left"},
		{exampleScene(), 19, 0, 20, impl.OK, "all equal dark ones less"},
		{exampleScene(), 0, 4, 10, impl.OK, "one of equal bright ones is left"},
		{exampleScene(), 0, 5, 0, impl.OK, "all equal bright ones less"},
		{exampleScene(), 23, 0, 0, impl.OK, "the brightest one is left"},
		{exampleScene(), 0, 23, 0, impl.OK, "the darkest one is left"},
		{exampleScene(), 12, 11, 0, impl.OK, "one in the middle is left"},
		{exampleScene(), 22, 0, 20, impl.OK, "the two brightest ones are left"},
		{counted(0, 2), 11, 11, 2, impl.OK, "two in the middle are left"},
		{counted(0, 2), 0, 0, 46, impl.OK, "all that rise"},
		{counted(60, -2), 3, 2, 36, impl.OK, "some that fall"},
		{halves(0, 60, 12), 0, 0, 60, impl.OK, "as much as can be"},
		{halves(0, 60, 12), 12, 0, 0, impl.OK, "only bright ones are left"},
		{exampleScene(), 24, 0, 0, impl.ErrRange, "none is left of the dark ones"},
		{exampleScene(), 0, 24, 0, impl.ErrRange, "none is left of the bright ones"},
		{exampleScene(), 12, 12, 0, impl.ErrRange, "none is left of both"},
		{exampleScene(), -1, 0, 0, impl.ErrRange, "low is less than 0"},
		{exampleScene(), 0, -1, 0, impl.ErrRange, "high is less than 0"},
		{exampleScene(), -1, 24, 0, impl.ErrRange, "less than 0, though both make 23"},
		{exampleScene(), 24, -1, 0, impl.ErrRange, "high less than 0, though both make 23"},
		{exampleScene(), 1 << 62, 1 << 62, 0, impl.ErrRange, "both together overflow"},
		{exampleScene(), 1<<63 - 1, 1<<63 - 1, 0, impl.ErrRange, "the greatest, which overflow"},
		{exampleScene(), 1<<63 - 1, 0, 0, impl.ErrRange, "the greatest one"},
		{exampleScene(), 0, -1 << 63, 0, impl.ErrRange, "the least one"},
		{exampleScene(), 1 << 32, 0, 0, impl.ErrRange, "what wraps around to 0"},
	} {
		wantNumbers(t, c.whyThatOne, numbersOf(impl.ContrastOf(c.s, c.low, c.high)), c.want, c.code)
	}
}

// TestExposureThirds has all placements.
func TestExposureThirds(t *testing.T) {
	thirds := [11]int64{-15, -12, -9, -6, -3, 0, 3, 6, 9, 12, 15}
	for _, p := range allPlacements() {
		wantNumbers(t, "ExposureThirds", numbersOf(impl.ExposureThirds(p)), thirds[p.Zone], impl.OK)
	}
}

// TestSettingsForPlacements holds settings against MoreLight, and against the value that they are to have.
func TestSettingsForPlacements(t *testing.T) {
	found, none := 0, 0
	for i, s := range settingsAt(0, 7, 21) {
		for k, p := range edgePlacements() {
			if (i+k)%7 > 0 {
				continue
			}
			for _, metered := range []int64{0, 1, 19, 20, 30, 59, 60} {
				thirds := metered - int64(p.Reading)
				for zone := p.Zone; zone > 5; zone-- {
					thirds += 3
				}
				for zone := p.Zone; zone < 5; zone++ {
					thirds -= 3
				}
				got, code := impl.SettingFor(s, metered, p)
				want, wantCode := impl.MoreLight(s, thirds)
				wantSetting(t, "SettingFor", got, code, want, wantCode)
				if code != impl.OK {
					none++
					continue
				}
				found++
				before, _ := impl.ValueOf(s)
				wantNumbers(t, "the value of SettingFor", numbersOf(impl.ValueOf(got)), before+thirds, impl.OK)
			}
		}
	}
	if found < 1000 || none < 1000 {
		t.Errorf("only %d are found, and %d are not", found, none)
	}
}

func TestSettingForCases(t *testing.T) {
	for _, c := range []struct {
		s          impl.Setting
		metered    int64
		p          impl.Placement
		want       impl.Setting
		code       int64
		whyThatOne string
	}{
		{setting(20, 10, 3), 20, impl.Placement{Reading: 20, Zone: 3}, setting(14, 10, 3), impl.OK, "the example"},
		{setting(20, 10, 3), 20, impl.Placement{Reading: 20, Zone: 5}, setting(20, 10, 3), impl.OK, "as it is metered"},
		{setting(20, 10, 3), 20, impl.Placement{Reading: 20, Zone: 7}, setting(26, 10, 3), impl.OK, "brighter"},
		{setting(20, 10, 3), 24, impl.Placement{Reading: 20, Zone: 5}, setting(24, 10, 3), impl.OK, "metered for a brighter one"},
		{setting(20, 10, 3), 16, impl.Placement{Reading: 20, Zone: 5}, setting(16, 10, 3), impl.OK, "metered for a darker one"},
		{setting(20, 10, 3), 26, impl.Placement{Reading: 20, Zone: 3}, setting(20, 10, 3), impl.OK, "metered for what is put in the zone 5"},
		{setting(20, 10, 3), 60, impl.Placement{Reading: 30, Zone: 5}, setting(45, 5, 3), impl.OK, "the aperture takes the rest"},
		{setting(20, 10, 3), 60, impl.Placement{Reading: 25, Zone: 5}, setting(45, 0, 3), impl.OK, "all light that there is"},
		{setting(20, 10, 3), 60, impl.Placement{Reading: 24, Zone: 5}, impl.Setting{}, impl.ErrNotFound, "just more light than there is"},
		{setting(20, 10, 3), 0, impl.Placement{Reading: 40, Zone: 5}, setting(0, 30, 3), impl.OK, "as little light as there is"},
		{setting(20, 10, 3), 0, impl.Placement{Reading: 41, Zone: 5}, impl.Setting{}, impl.ErrNotFound, "just less light than there is"},
		{setting(20, 10, 3), 60, impl.Placement{Reading: 0, Zone: 10}, impl.Setting{}, impl.ErrNotFound, "the most light that can be asked for"},
		{setting(20, 10, 3), 0, impl.Placement{Reading: 60, Zone: 0}, impl.Setting{}, impl.ErrNotFound, "the least light that can be asked for"},
		{setting(45, 0, 21), 20, impl.Placement{Reading: 20, Zone: 5}, setting(45, 0, 21), impl.OK, "no more light can be added, nor is asked for"},
		{setting(45, 0, 21), 21, impl.Placement{Reading: 20, Zone: 5}, impl.Setting{}, impl.ErrNotFound, "no more light can be added"},
		{setting(45, 0, 21), 20, impl.Placement{Reading: 20, Zone: 6}, impl.Setting{}, impl.ErrNotFound, "no more light can be added, for a zone"},
		{setting(0, 30, 0), 19, impl.Placement{Reading: 20, Zone: 5}, impl.Setting{}, impl.ErrNotFound, "no light can be taken away"},
		{setting(0, 30, 0), 20, impl.Placement{Reading: 20, Zone: 4}, impl.Setting{}, impl.ErrNotFound, "no light can be taken away, for a zone"},
		{setting(0, 0, 0), 60, impl.Placement{Reading: 0, Zone: 0}, setting(45, 0, 0), impl.OK, "just all of the shutter"},
		{setting(45, 20, 0), 0, impl.Placement{Reading: 10, Zone: 10}, setting(45, 15, 0), impl.OK, "15 more and 10 less are 5 more, at once"},
		{setting(45, 10, 0), 0, impl.Placement{Reading: 10, Zone: 10}, setting(45, 5, 0), impl.OK, "15 more alone would be too much"},
		{setting(0, 25, 0), 10, impl.Placement{Reading: 0, Zone: 0}, setting(0, 30, 0), impl.OK, "15 less alone would be too much"},
		{setting(20, 10, 3), 61, impl.Placement{Reading: 20, Zone: 5}, impl.Setting{}, impl.ErrRange, "metered for too much"},
		{setting(20, 10, 3), -1, impl.Placement{Reading: 20, Zone: 5}, impl.Setting{}, impl.ErrRange, "metered for less than 0"},
		{setting(45, 0, 21), 61, impl.Placement{Reading: 20, Zone: 10}, impl.Setting{}, impl.ErrRange, "metered for too much, and no more light"},
	} {
		got, code := impl.SettingFor(c.s, c.metered, c.p)
		wantSetting(t, c.whyThatOne, got, code, c.want, c.code)
	}
}
