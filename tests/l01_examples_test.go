package tests

import (
	"testing"

	"loop.example/g01301/impl"
)

// TestExamples1 has the example of chapter 1, clause by clause.
func TestExamples1(t *testing.T) {
	s, code := impl.ReadSetting("1/125 f/8 0")
	same(t, "the setting", s, setting(9, 18, 0))
	same(t, "its code", code, int64(impl.OK))
	value, code := impl.ValueOf(s)
	same(t, "its value", []int64{value, code}, []int64{-9, 0})
	more, code := impl.MoreLight(s, 3)
	same(t, "by 3 more", impl.SettingText(more), "1/60 f/8 0")
	same(t, "its code", code, int64(impl.OK))
	same(t, "ApertureName 19", impl.ApertureName(19), "f/8+1")
	list, code := impl.SettingsFor(-27, 0)
	texts := []string{}
	for _, one := range list {
		texts = append(texts, impl.SettingText(one))
	}
	same(t, "SettingsFor -27", texts, []string{"1/1000 f/22 0", "1/500 f/32 0"})
	same(t, "its code", code, int64(impl.OK))
	thirds, code := impl.FactorThirds(4)
	same(t, "FactorThirds 4", []int64{thirds, code}, []int64{6, 0})
	thirds, code = impl.FactorThirds(3)
	same(t, "FactorThirds 3", []int64{thirds, code}, []int64{5, 0})
	time, code := impl.TimeOf(7)
	same(t, "TimeOf 7", []int64{time, code}, []int64{5040, 0})
	thirds, code = impl.ThirdsIn(5000)
	same(t, "ThirdsIn 5000", []int64{thirds, code}, []int64{6, 0})
	thirds, code = impl.NearestThirds(5000)
	same(t, "NearestThirds 5000", []int64{thirds, code}, []int64{7, 0})
	thirds, code = impl.EnlargedBy(0, 10, 20)
	same(t, "EnlargedBy 0 from 10 to 20", []int64{thirds, code}, []int64{6, 0})
}
