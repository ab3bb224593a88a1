package tests

import (
	"math"
	"strings"
	"testing"

	"loop.example/g01301/impl"
)

// TestPromise1SceneInt8 holds validity against its definition for each number that each cell can have.
func TestPromise1SceneInt8(t *testing.T) {
	for cell := range 24 {
		for n := math.MinInt8; n <= math.MaxInt8; n++ {
			for _, others := range []impl.Scene{even(0), even(60), exampleScene()} {
				checkScene(t, at(others, int8(n), cell))
			}
		}
	}
	for n := math.MinInt8; n <= math.MaxInt8; n++ {
		checkScene(t, even(int8(n)))
	}
}

// checkScene also holds that all functions agree on what is valid.
func checkScene(t *testing.T, s impl.Scene) {
	t.Helper()
	valid := isScene(s)
	same(t, "ValidScene", impl.ValidScene(s), valid)
	same(t, "SceneText", impl.SceneText(s) != "", valid)
	for name, c := range callsOfScenes() {
		if got := c.call(s, c.low); (got.code == impl.OK) != valid || !valid && (got.code != impl.ErrInvalid || !got.zero) {
			t.Fatalf("%s %v: that it is valid is %v, but got %s %d", name, s, valid, got.results, got.code)
		}
	}
}

// TestPromise1PlacementInt8 has all placements that can be written, valid or not.
func TestPromise1PlacementInt8(t *testing.T) {
	for reading := math.MinInt8; reading <= math.MaxInt8; reading++ {
		for zone := math.MinInt8; zone <= math.MaxInt8; zone++ {
			p := impl.Placement{Reading: int8(reading), Zone: int8(zone)}
			valid := isPlacement(p)
			_, code := impl.ZoneOf(p, 30)
			_, other := impl.ExposureThirds(p)
			_, third := impl.ZonesOf(exampleScene(), p)
			if (code == impl.OK) != valid || (other == impl.OK) != valid || (third == impl.OK) != valid {
				t.Fatalf("%v: that it is valid is %v, but got %d %d %d", p, valid, code, other, third)
			}
			placed, code := impl.PlaceFor(int64(reading), int64(zone))
			if valid {
				wantPlacement(t, "PlaceFor", placed, code, p, impl.OK)
			} else {
				wantPlacement(t, "PlaceFor", placed, code, impl.Placement{}, impl.ErrRange)
			}
		}
	}
}

// sceneCall calls a function with a scene and a number, which has to be low to high.
type sceneCall struct {
	low, high int64
	call      func(s impl.Scene, n int64) outcome
}

// callsOfScenes are the functions with scenes; those without a number take all numbers.
func callsOfScenes() map[string]sceneCall {
	p := impl.Placement{Reading: 20, Zone: 3}
	least, most := int64(math.MinInt64), int64(math.MaxInt64)
	return map[string]sceneCall{
		"ReadingAt x":      {0, 5, func(s impl.Scene, n int64) outcome { return outcomeOf(impl.ReadingAt(s, n, 3)) }},
		"ReadingAt y":      {0, 3, func(s impl.Scene, n int64) outcome { return outcomeOf(impl.ReadingAt(s, 5, n)) }},
		"ReadingAt both":   {0, 3, func(s impl.Scene, n int64) outcome { return outcomeOf(impl.ReadingAt(s, n, n)) }},
		"ContrastOf low":   {0, 23, func(s impl.Scene, n int64) outcome { return outcomeOf(impl.ContrastOf(s, n, 0)) }},
		"ContrastOf high":  {0, 23, func(s impl.Scene, n int64) outcome { return outcomeOf(impl.ContrastOf(s, 0, n)) }},
		"ContrastOf of 20": {0, 3, func(s impl.Scene, n int64) outcome { return outcomeOf(impl.ContrastOf(s, 20, n)) }},
		"ContrastOf to 20": {0, 3, func(s impl.Scene, n int64) outcome { return outcomeOf(impl.ContrastOf(s, n, 20)) }},
		"ContrastOf of 23": {0, 0, func(s impl.Scene, n int64) outcome { return outcomeOf(impl.ContrastOf(s, 23, n)) }},
		"ContrastOf both":  {0, 11, func(s impl.Scene, n int64) outcome { return outcomeOf(impl.ContrastOf(s, n, n)) }},
		"AlikeFields":      {0, 60, func(s impl.Scene, n int64) outcome { return outcomeOf(impl.AlikeFields(s, n)) }},
		"SceneRange":       {least, most, func(s impl.Scene, _ int64) outcome { return outcomeOf(impl.SceneRange(s)) }},
		"MeanReading":      {least, most, func(s impl.Scene, _ int64) outcome { return outcomeOf(impl.MeanReading(s)) }},
		"FieldMean":        {least, most, func(s impl.Scene, _ int64) outcome { return outcomeOf(impl.FieldMean(s, wholeField)) }},
		"WeightedReading":  {least, most, func(s impl.Scene, _ int64) outcome { return outcomeOf(impl.WeightedReading(s)) }},
		"MedianReading":    {least, most, func(s impl.Scene, _ int64) outcome { return outcomeOf(impl.MedianReading(s)) }},
		"ZonesOf":          {least, most, func(s impl.Scene, _ int64) outcome { return outcomeOf(impl.ZonesOf(s, p)) }},
		"CountZones":       {least, most, func(s impl.Scene, _ int64) outcome { return outcomeOf(impl.CountZones(s, p)) }},
		"OffScale":         {least, most, func(s impl.Scene, _ int64) outcome { return outcomeOf(impl.OffScale(s, p)) }},
		"BestPlacement":    {least, most, func(s impl.Scene, _ int64) outcome { return outcomeOf(impl.BestPlacement(s)) }},
		"DevelopBy":        {least, most, func(s impl.Scene, _ int64) outcome { return outcomeOf(impl.DevelopBy(s, 1, 1)) }},
		"BrighterField":    {least, most, func(s impl.Scene, _ int64) outcome { return outcomeOf(impl.BrighterField(s, 1, 2)) }},
	}
}

// placementCall calls a function with a placement and a number, which has to be low to high.
type placementCall struct {
	low, high int64
	call      func(p impl.Placement, n int64) outcome
}

func callsOfPlacements() map[string]placementCall {
	s := exampleScene()
	least, most := int64(math.MinInt64), int64(math.MaxInt64)
	return map[string]placementCall{
		"ZoneOf":      {0, 60, func(p impl.Placement, n int64) outcome { return outcomeOf(impl.ZoneOf(p, n)) }},
		"SamePlacing": {0, 10, func(p impl.Placement, n int64) outcome { return outcomeOf(impl.SamePlacing(p, n)) }},
		"SettingFor": {0, 60, func(p impl.Placement, n int64) outcome {
			return outcomeOf(impl.SettingFor(setting(20, 10, 3), n, p))
		}},
		"SettingFor brightest": {0, 60, func(p impl.Placement, n int64) outcome {
			return outcomeOf(impl.SettingFor(setting(45, 0, 3), n, p))
		}},
		"ExposureThirds": {least, most, func(p impl.Placement, _ int64) outcome { return outcomeOf(impl.ExposureThirds(p)) }},
		"ZonesOf":        {least, most, func(p impl.Placement, _ int64) outcome { return outcomeOf(impl.ZonesOf(s, p)) }},
		"CountZones":     {least, most, func(p impl.Placement, _ int64) outcome { return outcomeOf(impl.CountZones(s, p)) }},
		"OffScale":       {least, most, func(p impl.Placement, _ int64) outcome { return outcomeOf(impl.OffScale(s, p)) }},
	}
}

// meterEdges are limits of the chapter, their neighbours, and numbers that wrap around to small ones or overflow.
func meterEdges() []int64 {
	return append(edgeNumbers(), -1<<62, -1<<61, -233, 12, 18, 19, 24, 25, 29, 58, 59, 60, 61, 62, 64, 266, 1<<16+5, 1<<32+20, 1<<61, 1<<62, 1<<63-24)
}

func TestPromise1MeterRanges(t *testing.T) {
	for _, n := range meterEdges() {
		for _, s := range someScenes(4) {
			for name, c := range callsOfScenes() {
				checkRange(t, name, c.call(s, n), n >= c.low && n <= c.high)
			}
		}
		for _, p := range edgePlacements() {
			for name, c := range callsOfPlacements() {
				got, fits := c.call(p, n), n >= c.low && n <= c.high
				if fits == (got.code == impl.ErrRange) || got.code != impl.OK && !got.zero {
					t.Fatalf("%s %d of %v: got %s %d", name, n, p, got.results, got.code)
				}
			}
		}
		checkRange(t, "PlaceFor reading", outcomeOf(impl.PlaceFor(n, 10)), n >= 0 && n <= 60)
		checkRange(t, "PlaceFor zone", outcomeOf(impl.PlaceFor(60, n)), n >= 0 && n <= 10)
		checkRange(t, "PlaceFor both", outcomeOf(impl.PlaceFor(n, n)), n >= 0 && n <= 10)
	}
}

// TestPromise1InvalidScenes gives numbers, fields and placements that are wrong as well, because ErrInvalid comes first.
func TestPromise1InvalidScenes(t *testing.T) {
	for which, bad := range invalidScenes() {
		same(t, which, impl.ValidScene(bad), false)
		same(t, which, impl.SceneText(bad), "")
		for name, c := range callsOfScenes() {
			for _, n := range meterEdges() {
				wantOutcome(t, name+" "+which, c.call(bad, n), impl.ErrInvalid)
			}
		}
		for _, a := range append(wrongFields(), 0, 1, wholeField) {
			wantOutcome(t, which, outcomeOf(impl.FieldMean(bad, a)), impl.ErrInvalid)
			for _, b := range append(wrongFields(), 0, 1, wholeField) {
				wantOutcome(t, which, outcomeOf(impl.DevelopBy(bad, a, b)), impl.ErrInvalid)
				wantOutcome(t, which, outcomeOf(impl.BrighterField(bad, a, b)), impl.ErrInvalid)
			}
		}
		for _, p := range append(invalidPlacements(), edgePlacements()...) {
			wantOutcome(t, which, outcomeOf(impl.ZonesOf(bad, p)), impl.ErrInvalid)
			wantOutcome(t, which, outcomeOf(impl.CountZones(bad, p)), impl.ErrInvalid)
			wantOutcome(t, which, outcomeOf(impl.OffScale(bad, p)), impl.ErrInvalid)
		}
	}
	for _, s := range someScenes(50) {
		same(t, "ValidScene", impl.ValidScene(s), true)
	}
}

func TestPromise1InvalidPlacements(t *testing.T) {
	for _, bad := range invalidPlacements() {
		for name, c := range callsOfPlacements() {
			for _, n := range meterEdges() {
				wantOutcome(t, name, c.call(bad, n), impl.ErrInvalid)
			}
		}
		for _, s := range append(invalidSettings(), setting(0, 0, 0), setting(45, 30, 21), setting(45, 0, 0)) {
			for _, n := range []int64{0, 20, 60, -1, 61, math.MinInt64, math.MaxInt64} {
				wantOutcome(t, "SettingFor", outcomeOf(impl.SettingFor(s, n, bad)), impl.ErrInvalid)
			}
		}
	}
}

// TestPromise1InvalidMeteredSettings also has placements for which there would be no light, and what is metered out of range.
func TestPromise1InvalidMeteredSettings(t *testing.T) {
	for _, bad := range invalidSettings() {
		for _, p := range edgePlacements() {
			for _, n := range meterEdges() {
				wantOutcome(t, "SettingFor", outcomeOf(impl.SettingFor(bad, n, p)), impl.ErrInvalid)
			}
		}
	}
}

// TestPromise1MeterOrder has arguments with two errors, of which the first one counts.
func TestPromise1MeterOrder(t *testing.T) {
	s, p := exampleScene(), impl.Placement{Reading: 0, Zone: 10}
	for which, got := range map[string]outcome{
		"FieldMean, a bit that is no cell and no cell":      outcomeOf(impl.FieldMean(s, 1<<24)),
		"SamePlacing, no zone and no reading":               outcomeOf(impl.SamePlacing(p, -1)),
		"SamePlacing, no zone and no reading above":         outcomeOf(impl.SamePlacing(impl.Placement{Reading: 60}, 11)),
		"SettingFor, not metered and too much light":        outcomeOf(impl.SettingFor(setting(45, 0, 0), 61, p)),
		"SettingFor, not metered and too little light":      outcomeOf(impl.SettingFor(setting(0, 30, 0), -1, impl.Placement{Reading: 60})),
		"DevelopBy, a dark bit and no bright cell":          outcomeOf(impl.DevelopBy(s, 1<<24, 0)),
		"DevelopBy, a bright bit and a brighter dark field": outcomeOf(impl.DevelopBy(s, 1<<23, 1<<24|1)),
		"BrighterField, a first bit and no second cell":     outcomeOf(impl.BrighterField(s, 1<<24, 0)),
	} {
		wantOutcome(t, which, got, impl.ErrRange)
	}
	for which, got := range map[string]outcome{
		"FieldMean, no cell":                           outcomeOf(impl.FieldMean(s, 0)),
		"DevelopBy, no dark cell and a bright bit":     outcomeOf(impl.DevelopBy(s, 0, 1<<24)),
		"BrighterField, no first cell and a wrong bit": outcomeOf(impl.BrighterField(s, 0, 1<<24)),
	} {
		wantOutcome(t, which, got, impl.ErrState)
	}
	wantOutcome(t, "SamePlacing", outcomeOf(impl.SamePlacing(p, 0)), impl.ErrNotFound)
	wantOutcome(t, "SettingFor", outcomeOf(impl.SettingFor(setting(45, 0, 0), 60, p)), impl.ErrNotFound)
}

// TestPromise1FieldBits has each bit that a field can have, alone and with others.
func TestPromise1FieldBits(t *testing.T) {
	s := exampleScene()
	for bit := range 32 {
		for _, others := range []uint32{0, 1, wholeField, 1 << 12} {
			field := others | 1<<bit
			checkRange(t, "FieldMean", outcomeOf(impl.FieldMean(s, field)), bit < 24)
			checkRange(t, "DevelopBy dark", outcomeOf(impl.DevelopBy(even(7), field, 1)), bit < 24)
			checkRange(t, "DevelopBy bright", outcomeOf(impl.DevelopBy(even(7), 1, field)), bit < 24)
			checkRange(t, "BrighterField a", outcomeOf(impl.BrighterField(s, field, 1)), bit < 24)
			checkRange(t, "BrighterField b", outcomeOf(impl.BrighterField(s, 1, field)), bit < 24)
		}
	}
}

// TestPromise1ScenesHuge gives texts with a million bytes.
func TestPromise1ScenesHuge(t *testing.T) {
	const million = 1000000
	for _, part := range []string{" ", "/", "0", "1", "-", "+", "0 ", "0/", "10 ", " /", "0 0 0 0 0 0/", exampleSceneText, "\x00", "\xff"} {
		text := strings.Repeat(part, million/len(part))
		for _, start := range []string{"", "1", "1 ", exampleSceneText, exampleSceneText + " ", exampleSceneText + "/"} {
			wantOutcome(t, "ReadScene", outcomeOf(impl.ReadScene(start+text)), impl.ErrSyntax)
			wantOutcome(t, "ReadScene", outcomeOf(impl.ReadScene(text+start)), impl.ErrSyntax)
		}
	}
	wantOutcome(t, "ReadScene", outcomeOf(impl.ReadScene("")), impl.ErrSyntax)
}

// TestPromise1SceneArguments: whatever is found in a scene is found in the same one again, and the scene stays as it is.
func TestPromise1SceneArguments(t *testing.T) {
	for _, s := range someScenes(40) {
		kept := textBy(s)
		for name, c := range callsOfScenes() {
			for _, n := range []int64{-1, 0, 1, 3, 5, 11, 23, 60, 61} {
				first := c.call(s, n)
				same(t, name, c.call(s, n), first)
				same(t, name, textBy(s), kept)
			}
		}
	}
	for _, p := range edgePlacements() {
		for name, c := range callsOfPlacements() {
			for _, n := range []int64{-1, 0, 1, 5, 10, 11, 60, 61} {
				first := c.call(p, n)
				same(t, name, c.call(p, n), first)
			}
		}
	}
}

// TestPromise1SceneResults changes each list that is returned, and all behind it, and calls again.
func TestPromise1SceneResults(t *testing.T) {
	for _, s := range someScenes(20) {
		for _, within := range []int64{0, 1, 5, 30, 60} {
			checkFresh(t, "AlikeFields", func() ([]uint32, int64) { return impl.AlikeFields(s, within) }, 77)
		}
	}
}

// TestPromise1ScenesAgain calls with scenes one after the other, forth and back, so that nothing is kept between calls.
func TestPromise1ScenesAgain(t *testing.T) {
	scenes := someScenes(40)
	found := map[impl.Scene]outcome{}
	for _, s := range scenes {
		found[s] = outcomeOf(impl.BestPlacement(s))
	}
	for i := len(scenes) - 1; i >= 0; i-- {
		same(t, "BestPlacement", outcomeOf(impl.BestPlacement(scenes[i])), found[scenes[i]])
	}
}
