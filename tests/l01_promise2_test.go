package tests

import (
	"slices"
	"testing"

	"loop.example/g01301/impl"
)

func TestPromise2Values(t *testing.T) {
	for _, s := range settingsAt(0, 1, 20, 21) {
		value, code := impl.ValueOf(s)
		if value != int64(s.Shutter)-int64(s.Aperture)+int64(s.Speed) || code != impl.OK {
			t.Fatalf("%v: got %d %d", s, value, code)
		}
	}
	value, _ := impl.ValueOf(setting(45, 0, 21))
	same(t, "the greatest value", value, int64(66))
	value, _ = impl.ValueOf(setting(0, 30, 0))
	same(t, "the least value", value, int64(-30))
}

func TestPromise2MoreLight(t *testing.T) {
	for _, c := range []struct {
		from   impl.Setting
		thirds int64
		want   impl.Setting
		code   int64
	}{
		{setting(9, 18, 0), 0, setting(9, 18, 0), impl.OK},
		{setting(9, 18, 0), 3, setting(12, 18, 0), impl.OK},
		{setting(9, 18, 0), -9, setting(0, 18, 0), impl.OK},
		{setting(9, 18, 0), -10, setting(0, 19, 0), impl.OK},
		{setting(42, 18, 5), 3, setting(45, 18, 5), impl.OK},
		{setting(42, 18, 5), 4, setting(45, 17, 5), impl.OK},
		{setting(1, 18, 5), -3, setting(0, 20, 5), impl.OK},
		{setting(45, 1, 21), 1, setting(45, 0, 21), impl.OK},
		{setting(45, 1, 21), 2, impl.Setting{}, impl.ErrNotFound},
		{setting(0, 29, 21), -1, setting(0, 30, 21), impl.OK},
		{setting(0, 29, 21), -2, impl.Setting{}, impl.ErrNotFound},
		{setting(0, 30, 4), 75, setting(45, 0, 4), impl.OK},
		{setting(0, 30, 4), 76, impl.Setting{}, impl.ErrNotFound},
		{setting(0, 30, 4), 100, impl.Setting{}, impl.ErrNotFound},
		{setting(0, 30, 4), 101, impl.Setting{}, impl.ErrRange},
		{setting(45, 0, 4), -75, setting(0, 30, 4), impl.OK},
		{setting(45, 0, 4), -76, impl.Setting{}, impl.ErrNotFound},
		{setting(0, 30, 4), -100, impl.Setting{}, impl.ErrNotFound},
		{setting(0, 30, 4), -101, impl.Setting{}, impl.ErrRange},
	} {
		got, code := impl.MoreLight(c.from, c.thirds)
		if got != c.want || code != c.code {
			t.Errorf("%v by %d: got %v %d, want %v %d", c.from, c.thirds, got, code, c.want, c.code)
		}
	}
}

// thirdByThird adds light by single thirds: by the shutter while it can, and then by the aperture.
func thirdByThird(s impl.Setting, thirds int64) (impl.Setting, bool) {
	for ; thirds > 0; thirds-- {
		if s.Shutter < 45 {
			s.Shutter++
		} else if s.Aperture > 0 {
			s.Aperture--
		} else {
			return impl.Setting{}, false
		}
	}
	for ; thirds < 0; thirds++ {
		if s.Shutter > 0 {
			s.Shutter--
		} else if s.Aperture < 30 {
			s.Aperture++
		} else {
			return impl.Setting{}, false
		}
	}
	return s, true
}

func TestPromise2AddedAndTakenAway(t *testing.T) {
	for _, s := range settingsAt(0, 21) {
		before, _ := impl.ValueOf(s)
		for thirds := int64(-100); thirds <= 100; thirds++ {
			more, code := impl.MoreLight(s, thirds)
			want, possible := thirdByThird(s, thirds)
			if more != want || possible != (code == impl.OK) {
				t.Fatalf("%v by %d: got %v %d, want %v %v", s, thirds, more, code, want, possible)
			}
			if !possible {
				same(t, "code", code, int64(impl.ErrNotFound))
				continue
			}
			value, _ := impl.ValueOf(more)
			back, code := impl.MoreLight(more, -thirds)
			again, _ := impl.ValueOf(back)
			if value != before+thirds || code != impl.OK || again != before || back.Speed != s.Speed {
				t.Fatalf("%v by %d and back: got %v and %v", s, thirds, more, back)
			}
		}
	}
}

// wholeSettings returns all settings of whole stops with a speed that are just so far away from a value.
func wholeSettings(value, speed, away int64) []impl.Setting {
	list := []impl.Setting{}
	for _, s := range settingsAt(speed) {
		gap := int64(s.Shutter) - int64(s.Aperture) + speed - value
		if s.Shutter%3 == 0 && s.Aperture%3 == 0 && (gap == away || gap == -away) {
			list = append(list, s)
		}
	}
	return list
}

func TestPromise2SettingsForAll(t *testing.T) {
	for speed := int64(0); speed <= impl.MaxSpeed; speed++ {
		for value := int64(-100); value <= 100; value++ {
			list, code := impl.SettingsFor(value, speed)
			want := wholeSettings(value, speed, 0)
			if !slices.Equal(list, want) || (code == impl.OK) != (len(want) > 0) {
				t.Fatalf("SettingsFor %d %d: got %v %d, want %v", value, speed, list, code, want)
			}
			if len(want) == 0 {
				same(t, "code", code, int64(impl.ErrNotFound))
			}
			for _, s := range list {
				got, code := impl.ValueOf(s)
				same(t, "value", []int64{got, code}, []int64{value, impl.OK})
			}
			away := int64(0)
			for len(want) == 0 {
				away++
				want = wholeSettings(value, speed, away)
			}
			list, code = impl.NearestSettings(value, speed)
			if !slices.Equal(list, want) || code != impl.OK {
				t.Fatalf("NearestSettings %d %d: got %v %d, want %v", value, speed, list, code, want)
			}
		}
	}
}

func TestPromise2SettingsForCases(t *testing.T) {
	list, code := impl.SettingsFor(66, 21)
	same(t, "the greatest value", list, []impl.Setting{setting(45, 0, 21)})
	same(t, "its code", code, int64(impl.OK))
	list, code = impl.SettingsFor(-30, 0)
	same(t, "the least value", list, []impl.Setting{setting(0, 30, 0)})
	same(t, "its code", code, int64(impl.OK))
	list, code = impl.SettingsFor(0, 20)
	same(t, "no whole stops", len(list), 0)
	same(t, "its code", code, int64(impl.ErrNotFound))
	list, _ = impl.SettingsFor(-26, 1)
	same(t, "a speed that is no whole stop", list, []impl.Setting{setting(0, 27, 1), setting(3, 30, 1)})
	list, _ = impl.NearestSettings(-28, 0)
	same(t, "nearest above", list, []impl.Setting{setting(0, 27, 0), setting(3, 30, 0)})
	list, _ = impl.NearestSettings(-29, 0)
	same(t, "nearest below", list, []impl.Setting{setting(0, 30, 0)})
	list, _ = impl.NearestSettings(-100, 0)
	same(t, "far below", list, []impl.Setting{setting(0, 30, 0)})
	list, _ = impl.NearestSettings(100, 21)
	same(t, "far above", list, []impl.Setting{setting(45, 0, 21)})
}

func TestPromise2SettingsForRanges(t *testing.T) {
	for _, value := range edgeNumbers() {
		for _, speed := range edgeNumbers() {
			if value >= -100 && value <= 100 && speed >= 0 && speed <= 21 {
				continue
			}
			list, code := impl.SettingsFor(value, speed)
			near, nearCode := impl.NearestSettings(value, speed)
			if len(list) > 0 || len(near) > 0 || code != impl.ErrRange || nearCode != impl.ErrRange {
				t.Fatalf("%d %d: got %v %d and %v %d", value, speed, list, code, near, nearCode)
			}
		}
	}
}

func TestPromise2Brackets(t *testing.T) {
	for _, s := range settingsAt(0, 21) {
		for each := int64(0); each <= 5; each++ {
			for step := int64(1); step <= 9; step++ {
				want := []impl.Setting{}
				for k := -each; k <= each; k++ {
					if made, possible := thirdByThird(s, k*step); possible {
						want = append(want, made)
					}
				}
				all := len(want) == int(2*each+1)
				list, code := impl.BracketOf(s, each, step)
				if all && (code != impl.OK || !slices.Equal(list, want)) || !all && (code != impl.ErrNotFound || len(list) > 0) {
					t.Fatalf("%v %d %d: got %v %d, want %v", s, each, step, list, code, want)
				}
			}
		}
	}
}

func TestPromise2BracketCases(t *testing.T) {
	for _, c := range []struct {
		from       impl.Setting
		each, step int64
		want       []impl.Setting
		code       int64
	}{
		{setting(9, 18, 0), 0, 1, []impl.Setting{setting(9, 18, 0)}, impl.OK},
		{setting(9, 18, 0), 0, 9, []impl.Setting{setting(9, 18, 0)}, impl.OK},
		{setting(9, 18, 0), 1, 2, []impl.Setting{setting(7, 18, 0), setting(9, 18, 0), setting(11, 18, 0)}, impl.OK},
		{setting(2, 5, 3), 1, 4, []impl.Setting{setting(0, 7, 3), setting(2, 5, 3), setting(6, 5, 3)}, impl.OK},
		{setting(44, 5, 3), 1, 4, []impl.Setting{setting(40, 5, 3), setting(44, 5, 3), setting(45, 2, 3)}, impl.OK},
		{setting(0, 30, 0), 1, 1, nil, impl.ErrNotFound},
		{setting(45, 0, 0), 1, 1, nil, impl.ErrNotFound},
		{setting(20, 10, 0), 5, 9, nil, impl.ErrNotFound},
		{setting(20, 10, 0), 6, 1, nil, impl.ErrRange},
		{setting(20, 10, 0), -1, 1, nil, impl.ErrRange},
		{setting(20, 10, 0), 1, 0, nil, impl.ErrRange},
		{setting(20, 10, 0), 0, 0, nil, impl.ErrRange},
		{setting(20, 10, 0), 1, 10, nil, impl.ErrRange},
		{setting(20, 10, 0), 0, 10, nil, impl.ErrRange},
		{setting(0, 30, 0), 5, 10, nil, impl.ErrRange},
	} {
		list, code := impl.BracketOf(c.from, c.each, c.step)
		if !slices.Equal(list, c.want) || code != c.code {
			t.Errorf("%v %d %d: got %v %d, want %v %d", c.from, c.each, c.step, list, code, c.want, c.code)
		}
	}
	list, code := impl.BracketOf(setting(10, 5, 3), 5, 7)
	same(t, "the most settings", len(list), 11)
	same(t, "the first one", list[0], setting(0, 30, 3))
	same(t, "the last one", list[10], setting(45, 5, 3))
	same(t, "its code", code, int64(impl.OK))
}

func TestPromise2Filters(t *testing.T) {
	s := setting(0, 30, 7)
	for _, c := range []struct {
		factors []int64
		want    impl.Setting
		code    int64
	}{
		{[]int64{1}, setting(0, 30, 7), impl.OK},
		{[]int64{4, 2}, setting(9, 30, 7), impl.OK},
		{[]int64{3, 3}, setting(10, 30, 7), impl.OK},
		{[]int64{2, 2, 2, 2}, setting(12, 30, 7), impl.OK},
		{[]int64{1000, 32}, setting(45, 30, 7), impl.OK},
		{[]int64{1000, 33}, setting(45, 29, 7), impl.OK},
		{[]int64{1000, 1000, 32}, setting(45, 0, 7), impl.OK},
		{[]int64{1000, 1000, 33}, impl.Setting{}, impl.ErrNotFound},
		{[]int64{1000, 1000, 1000, 10}, impl.Setting{}, impl.ErrNotFound},
		{[]int64{1000, 1000, 1000, 11}, impl.Setting{}, impl.ErrRange},
		{[]int64{1000, 1000, 1000, 1000}, impl.Setting{}, impl.ErrRange},
		{[]int64{0}, impl.Setting{}, impl.ErrRange},
		{[]int64{1001}, impl.Setting{}, impl.ErrRange},
		{[]int64{1, 1, 1, -1}, impl.Setting{}, impl.ErrRange},
		{[]int64{1000, 1000, 1000, 0}, impl.Setting{}, impl.ErrRange},
		{[]int64{1, 1, 1, 1}, setting(0, 30, 7), impl.OK},
		{[]int64{1, 1, 1, 1, 1}, impl.Setting{}, impl.ErrLimit},
		{[]int64{0, 1, 1, 1, 1}, impl.Setting{}, impl.ErrLimit},
		{[]int64{1000, 1000, 1000, 1000, 1000}, impl.Setting{}, impl.ErrLimit},
	} {
		got, code := impl.WithFilters(s, c.factors)
		if got != c.want || code != c.code {
			t.Errorf("%v: got %v %d, want %v %d", c.factors, got, code, c.want, c.code)
		}
	}
}

// TestPromise2Corrected also has the guarantee that what a table corrects has been metered.
func TestPromise2Corrected(t *testing.T) {
	for name, table := range validTables() {
		for shutter := int64(0); shutter <= 45; shutter++ {
			wantExtra := int64(0)
			for _, entry := range table {
				if shutter >= int64(entry.From) {
					wantExtra = int64(entry.Extra)
				}
			}
			extra, code := impl.ExtraFor(table, shutter)
			same(t, name, []int64{extra, code}, []int64{wantExtra, impl.OK})
			s := setting(shutter, 13, 8)
			got, code := impl.CorrectedFor(table, s)
			if shutter+wantExtra > 45 {
				same(t, name, got, impl.Setting{})
				same(t, name, code, int64(impl.ErrNotFound))
				continue
			}
			same(t, name, got, setting(shutter+wantExtra, 13, 8))
			same(t, name, code, int64(impl.OK))
			list, code := impl.MeteredFor(table, shutter+wantExtra)
			same(t, name, code, int64(impl.OK))
			same(t, name, slices.Contains(list, shutter), true)
		}
	}
}

func TestPromise2Metered(t *testing.T) {
	for name, table := range validTables() {
		for shutter := int64(0); shutter <= 45; shutter++ {
			list, code := impl.MeteredFor(table, shutter)
			want := []int64{}
			for metered := int64(0); metered <= 45; metered++ {
				extra, _ := impl.ExtraFor(table, metered)
				if metered+extra == shutter {
					want = append(want, metered)
				}
			}
			if !slices.Equal(list, want) || code != impl.OK {
				t.Errorf("%s %d: got %v %d, want %v", name, shutter, list, code, want)
			}
		}
	}
	table := []impl.Long{{From: 30, Extra: 1}, {From: 36, Extra: 4}}
	for shutter, want := range map[int64][]int64{
		0: {0}, 29: {29}, 30: {}, 31: {30}, 36: {35}, 37: {}, 39: {}, 40: {36}, 45: {41},
	} {
		list, code := impl.MeteredFor(table, shutter)
		if !slices.Equal(list, want) || code != impl.OK {
			t.Errorf("%d: got %v %d, want %v", shutter, list, code, want)
		}
	}
}

func TestPromise2TableRanges(t *testing.T) {
	table := []impl.Long{{From: 0, Extra: 1}, {From: 36, Extra: 4}}
	for _, shutter := range edgeNumbers() {
		_, code := impl.ExtraFor(table, shutter)
		_, meteredCode := impl.MeteredFor(table, shutter)
		want := int64(impl.ErrRange)
		if shutter >= 0 && shutter <= 45 {
			want = impl.OK
		}
		same(t, "ExtraFor", code, want)
		same(t, "MeteredFor", meteredCode, want)
	}
	got, code := impl.CorrectedFor(table, setting(41, 30, 21))
	same(t, "just reached", got, setting(45, 30, 21))
	same(t, "its code", code, int64(impl.OK))
	got, code = impl.CorrectedFor(table, setting(42, 30, 21))
	same(t, "just passed", got, impl.Setting{})
	same(t, "its code", code, int64(impl.ErrNotFound))
}
