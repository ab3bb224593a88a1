package tests

import (
	"testing"

	"loop.example/g01301/impl"
)

// TestExamples6 has the example of chapter 6, clause by clause.
func TestExamples6(t *testing.T) {
	p, code := impl.PlaceFor(20, 3)
	wantPlacement(t, "the reading 20 in the zone 3", p, code, impl.Placement{Reading: 20, Zone: 3}, impl.OK)
	wantNumbers(t, "the zone of 19", numbersOf(impl.ZoneOf(p, 19)), 3, impl.OK)
	wantNumbers(t, "the zone of 21", numbersOf(impl.ZoneOf(p, 21)), 3, impl.OK)
	wantNumbers(t, "the zone of 22", numbersOf(impl.ZoneOf(p, 22)), 4, impl.OK)
	wantNumbers(t, "the zone of 18", numbersOf(impl.ZoneOf(p, 18)), 2, impl.OK)
	wantNumbers(t, "the zone of 60", numbersOf(impl.ZoneOf(p, 60)), 16, impl.OK)
	_, above, code := impl.OffScale(at(even(20), 60, 9), p)
	same(t, "60 is off the scale", []int64{int64(above), code}, []int64{1 << 9, impl.OK})
	same20, code := impl.SamePlacing(p, 5)
	wantPlacement(t, "in the zone 5", same20, code, impl.Placement{Reading: 26, Zone: 5}, impl.OK)
	wantNumbers(t, "the thirds", numbersOf(impl.ExposureThirds(p)), -6, impl.OK)
	less, code := impl.SettingFor(setting(20, 10, 3), 20, p)
	wantSetting(t, "6 thirds less", less, code, setting(14, 10, 3), impl.OK)
}
