package tests

import (
	"math"
	"reflect"
	"testing"

	"loop.example/g01301/impl"
)

func same(t *testing.T, what string, got, want any) {
	t.Helper()
	if !reflect.DeepEqual(got, want) {
		t.Errorf("%s: got %v, want %v", what, got, want)
	}
}

// edgeNumbers are limits of the document, their neighbours, and numbers that wrap around to small ones.
func edgeNumbers() []int64 {
	return []int64{
		math.MinInt64, math.MinInt64 + 1, math.MinInt32, -1 << 40, -257, -256, -129, -128, -127, -102, -101, -100, -99,
		-46, -45, -31, -30, -28, -27, -10, -9, -5, -3, -2, -1, 0, 1, 2, 3, 4, 5, 6, 7, 8, 9, 10, 11, 20, 21, 22, 23,
		30, 31, 35, 36, 37, 44, 45, 46, 47, 99, 100, 101, 102, 127, 128, 129, 255, 256, 257, 261, 999, 1000, 1001,
		99999999, 100000000, 100000001, math.MaxInt32, 1 << 32, 1<<32 + 9, 1 << 40, math.MaxInt64 - 1, math.MaxInt64,
	}
}

func setting(shutter, aperture, speed int64) impl.Setting {
	return impl.Setting{Shutter: int8(shutter), Aperture: int8(aperture), Speed: int8(speed)}
}

func settingsAt(speeds ...int64) []impl.Setting {
	list := []impl.Setting{}
	for _, speed := range speeds {
		for shutter := int64(0); shutter <= impl.MaxShutter; shutter++ {
			for aperture := int64(0); aperture <= impl.MaxAperture; aperture++ {
				list = append(list, setting(shutter, aperture, speed))
			}
		}
	}
	return list
}

func invalidSettings() []impl.Setting {
	return []impl.Setting{
		{Shutter: -1}, {Shutter: 46}, {Shutter: math.MinInt8}, {Shutter: math.MaxInt8},
		{Aperture: -1}, {Aperture: 31}, {Aperture: math.MinInt8}, {Aperture: math.MaxInt8},
		{Speed: -1}, {Speed: 22}, {Speed: math.MinInt8}, {Speed: math.MaxInt8},
		{Shutter: math.MinInt8, Aperture: math.MaxInt8, Speed: math.MinInt8},
		{Shutter: math.MaxInt8, Aperture: math.MinInt8, Speed: math.MaxInt8},
		{Shutter: 46, Aperture: 30, Speed: 21}, {Shutter: 45, Aperture: 31, Speed: 21}, {Shutter: 45, Aperture: 30, Speed: 22},
	}
}

func invalidTables() map[string][]impl.Long {
	return map[string][]impl.Long{
		"eleven entries":    rising(11),
		"from -1":           {{From: -1, Extra: 1}},
		"from 46":           {{From: 46, Extra: 1}},
		"from least":        {{From: math.MinInt8, Extra: 1}},
		"from greatest":     {{From: math.MaxInt8, Extra: 1}},
		"extra -1":          {{From: 1, Extra: -1}},
		"extra 31":          {{From: 1, Extra: 31}},
		"extra least":       {{From: 1, Extra: math.MinInt8}},
		"extra greatest":    {{From: 1, Extra: math.MaxInt8}},
		"equal froms":       {{From: 5, Extra: 1}, {From: 5, Extra: 2}},
		"falling froms":     {{From: 5, Extra: 1}, {From: 4, Extra: 2}},
		"falling extras":    {{From: 5, Extra: 2}, {From: 6, Extra: 1}},
		"falling at last":   {{From: 5, Extra: 1}, {From: 6, Extra: 2}, {From: 7, Extra: 1}},
		"late from too far": {{From: 5, Extra: 1}, {From: 46, Extra: 2}},
	}
}

// rising returns a table with some entries that is valid but for their number.
func rising(entries int) []impl.Long {
	table := []impl.Long{}
	for i := range entries {
		table = append(table, impl.Long{From: int8(4 * i), Extra: int8(3 * i)})
	}
	return table
}

func validTables() map[string][]impl.Long {
	return map[string][]impl.Long{
		"nil":           nil,
		"empty":         {},
		"one at 0":      {{From: 0, Extra: 0}},
		"one at 0 more": {{From: 0, Extra: 3}},
		"the limits":    {{From: 0, Extra: 0}, {From: 45, Extra: 30}},
		"all at once":   {{From: 0, Extra: 30}},
		"two":           {{From: 30, Extra: 1}, {From: 36, Extra: 4}},
		"equal extras":  {{From: 30, Extra: 4}, {From: 31, Extra: 4}, {From: 32, Extra: 4}},
		"neighbours":    {{From: 10, Extra: 1}, {From: 11, Extra: 2}, {From: 12, Extra: 4}},
		"ten entries":   rising(10),
	}
}
