package tests

import (
	"math"
	"slices"
	"strings"
	"testing"

	"loop.example/g01301/impl"
)

// TestPromise1ZeroBehindErrors calls the functions of numbers with all pairs and triples of edge numbers.
func TestPromise1ZeroBehindErrors(t *testing.T) {
	for _, a := range edgeNumbers() {
		for name, call := range map[string]func(int64) (int64, int64){
			"FactorThirds": impl.FactorThirds, "TimeOf": impl.TimeOf, "ThirdsIn": impl.ThirdsIn, "NearestThirds": impl.NearestThirds,
		} {
			checkNumber(t, name, func() (int64, int64) { return call(a) })
		}
		checkNumber(t, "TimesOf", func() (int64, int64) { return impl.TimesOf([]int64{a, 0, a}) })
		checkNumber(t, "ExtraFor", func() (int64, int64) { return impl.ExtraFor(rising(10), a) })
		checkList(t, "MeteredFor", func() ([]int64, int64) { return impl.MeteredFor(rising(10), a) })
		checkSetting(t, "MoreLight", func() (impl.Setting, int64) { return impl.MoreLight(setting(9, 18, 0), a) })
		checkSetting(t, "WithFilters", func() (impl.Setting, int64) { return impl.WithFilters(setting(9, 18, 0), []int64{a}) })
		for _, b := range edgeNumbers() {
			checkList(t, "SettingsFor", func() ([]impl.Setting, int64) { return impl.SettingsFor(a, b) })
			checkList(t, "NearestSettings", func() ([]impl.Setting, int64) { return impl.NearestSettings(a, b) })
			checkList(t, "BracketOf", func() ([]impl.Setting, int64) { return impl.BracketOf(setting(9, 18, 0), a, b) })
			checkSetting(t, "WithFilters", func() (impl.Setting, int64) { return impl.WithFilters(setting(9, 18, 0), []int64{a, b}) })
			for _, c := range edgeNumbers() {
				checkNumber(t, "EnlargedBy", func() (int64, int64) { return impl.EnlargedBy(a, b, c) })
			}
		}
	}
}

func checkNumber(t *testing.T, name string, call func() (int64, int64)) {
	t.Helper()
	number, code := call()
	again, codeAgain := call()
	if number != again || code != codeAgain || code < 0 || code > impl.ErrProof || code != impl.OK && number != 0 {
		t.Errorf("%s: %d %d, and then %d %d", name, number, code, again, codeAgain)
	}
}

func checkSetting(t *testing.T, name string, call func() (impl.Setting, int64)) {
	t.Helper()
	s, code := call()
	again, codeAgain := call()
	if s != again || code != codeAgain || code < 0 || code > impl.ErrProof || code != impl.OK && s != (impl.Setting{}) {
		t.Errorf("%s: %v %d, and then %v %d", name, s, code, again, codeAgain)
	}
	if code == impl.OK && !impl.ValidSetting(s) {
		t.Errorf("%s: %v is not valid", name, s)
	}
}

func checkList[T comparable](t *testing.T, name string, call func() ([]T, int64)) {
	t.Helper()
	list, code := call()
	again, codeAgain := call()
	if !slices.Equal(list, again) || code != codeAgain || code < 0 || code > impl.ErrProof || code != impl.OK && len(list) > 0 {
		t.Errorf("%s: %v %d, and then %v %d", name, list, code, again, codeAgain)
	}
}

// TestPromise1AllInt8 holds validity against its definition for each number that a field can have.
func TestPromise1AllInt8(t *testing.T) {
	for n := int64(math.MinInt8); n <= math.MaxInt8; n++ {
		same(t, "shutter", impl.ValidSetting(setting(n, 30, 21)), n >= 0 && n <= 45)
		same(t, "aperture", impl.ValidSetting(setting(45, n, 0)), n >= 0 && n <= 30)
		same(t, "speed", impl.ValidSetting(setting(0, 0, n)), n >= 0 && n <= 21)
		same(t, "from", impl.ValidTable([]impl.Long{{From: int8(n), Extra: 30}}), n >= 0 && n <= 45)
		same(t, "extra", impl.ValidTable([]impl.Long{{From: 45, Extra: int8(n)}}), n >= 0 && n <= 30)
		for m := int64(math.MinInt8); m <= math.MaxInt8; m++ {
			valid := n >= 0 && n <= 45 && m >= 0 && m <= 30
			same(t, "setting", impl.ValidSetting(setting(n, m, 7)), valid)
			same(t, "entry", impl.ValidTable([]impl.Long{{From: int8(n), Extra: int8(m)}}), valid)
			rises := valid && n > 20 && m >= 10
			same(t, "second entry", impl.ValidTable([]impl.Long{{From: 20, Extra: 10}, {From: int8(n), Extra: int8(m)}}), rises)
		}
	}
}

func TestPromise1InvalidSettings(t *testing.T) {
	same(t, "the least one is valid", impl.ValidSetting(impl.Setting{}), true)
	same(t, "the greatest one is valid", impl.ValidSetting(setting(45, 30, 21)), true)
	for _, s := range invalidSettings() {
		same(t, "ValidSetting", impl.ValidSetting(s), false)
		same(t, "SettingText", impl.SettingText(s), "")
		number, code := impl.ValueOf(s)
		same(t, "ValueOf", []int64{number, code}, []int64{0, impl.ErrInvalid})
		// Each call also breaks the rules that are checked behind ErrInvalid.
		wantInvalid(t, "MoreLight", func() (impl.Setting, int64) { return impl.MoreLight(s, 101) })
		wantInvalid(t, "MoreLight", func() (impl.Setting, int64) { return impl.MoreLight(s, 0) })
		wantInvalid(t, "WithFilters", func() (impl.Setting, int64) { return impl.WithFilters(s, []int64{0, 0, 0, 0, 0}) })
		wantInvalid(t, "WithFilters", func() (impl.Setting, int64) { return impl.WithFilters(s, nil) })
		wantInvalid(t, "CorrectedFor", func() (impl.Setting, int64) { return impl.CorrectedFor([]impl.Long{{From: 0, Extra: 30}}, s) })
		for _, each := range []int64{0, 6} {
			list, code := impl.BracketOf(s, each, 10*each+1)
			same(t, "BracketOf", len(list), 0)
			same(t, "BracketOf", code, int64(impl.ErrInvalid))
		}
	}
}

func wantInvalid(t *testing.T, name string, call func() (impl.Setting, int64)) {
	t.Helper()
	s, code := call()
	same(t, name, s, impl.Setting{})
	same(t, name, code, int64(impl.ErrInvalid))
}

func TestPromise1InvalidTables(t *testing.T) {
	for name, table := range validTables() {
		same(t, name, impl.ValidTable(table), true)
	}
	for name, table := range invalidTables() {
		same(t, name, impl.ValidTable(table), false)
		wantInvalid(t, name, func() (impl.Setting, int64) { return impl.CorrectedFor(table, setting(45, 0, 0)) })
		for _, shutter := range []int64{0, 45, -1, 46} {
			extra, code := impl.ExtraFor(table, shutter)
			same(t, name, []int64{extra, code}, []int64{0, impl.ErrInvalid})
			list, code := impl.MeteredFor(table, shutter)
			same(t, name, len(list), 0)
			same(t, name, code, int64(impl.ErrInvalid))
		}
	}
}

// TestPromise1Huge gives lists and texts with a million elements.
func TestPromise1Huge(t *testing.T) {
	const million = 1000000
	_, code := impl.TimesOf(make([]int64, million))
	same(t, "TimesOf", code, int64(impl.ErrRange))
	_, code = impl.WithFilters(setting(9, 18, 0), make([]int64, million))
	same(t, "WithFilters", code, int64(impl.ErrLimit))
	same(t, "ValidTable", impl.ValidTable(make([]impl.Long, million)), false)
	_, code = impl.ExtraFor(make([]impl.Long, million), 0)
	same(t, "ExtraFor", code, int64(impl.ErrInvalid))
	for _, part := range []string{" ", "0", "9", "/", "\x00", "\xff", "1/125 f/8 0 "} {
		_, code = impl.ReadSetting(strings.Repeat(part, million/len(part)))
		same(t, "ReadSetting", code, int64(impl.ErrSyntax))
		_, code = impl.ReadSetting("1/125 f/8 " + strings.Repeat(part, million/len(part)))
		same(t, "ReadSetting", code, int64(impl.ErrSyntax))
	}
}

// TestPromise1Arguments gives lists with unused capacity, all of which has to stay as it is.
func TestPromise1Arguments(t *testing.T) {
	numbers := []int64{4, 2, 7, 8, 9}
	keptNumbers := slices.Clone(numbers)
	entries := []impl.Long{{From: 30, Extra: 1}, {From: 36, Extra: 4}, {From: 9, Extra: 9}, {From: -1, Extra: -1}}
	keptEntries := slices.Clone(entries)
	impl.WithFilters(setting(9, 18, 0), numbers[:2])
	impl.TimesOf(numbers[:3])
	table := entries[:2]
	impl.ValidTable(table)
	impl.ExtraFor(table, 40)
	impl.CorrectedFor(table, setting(36, 0, 0))
	impl.MeteredFor(table, 40)
	impl.ValidTable(entries)
	impl.ExtraFor(entries, 40)
	same(t, "numbers", numbers, keptNumbers)
	same(t, "entries", entries, keptEntries)
}

// TestPromise1FreshResults changes each list that is returned, and all behind it, and calls again.
func TestPromise1FreshResults(t *testing.T) {
	for name, call := range map[string]func() ([]impl.Setting, int64){
		"SettingsFor":     func() ([]impl.Setting, int64) { return impl.SettingsFor(-27, 0) },
		"NearestSettings": func() ([]impl.Setting, int64) { return impl.NearestSettings(-28, 0) },
		"BracketOf":       func() ([]impl.Setting, int64) { return impl.BracketOf(setting(9, 18, 0), 1, 2) },
	} {
		checkFresh(t, name, call, impl.Setting{Shutter: 99})
	}
	table := []impl.Long{{From: 30, Extra: 1}, {From: 36, Extra: 4}}
	checkFresh(t, "MeteredFor", func() ([]int64, int64) { return impl.MeteredFor(table, 40) }, -1)
}

func checkFresh[T comparable](t *testing.T, name string, call func() ([]T, int64), mark T) {
	t.Helper()
	list, _ := call()
	kept := slices.Clone(list)
	other, _ := call()
	whole := list[:cap(list)]
	for i := range whole {
		whole[i] = mark
	}
	same(t, name, other, kept)
	again, _ := call()
	same(t, name, again, kept)
}

// TestPromise1NilAndEmpty: both are the same list.
func TestPromise1NilAndEmpty(t *testing.T) {
	s := setting(9, 18, 3)
	for _, factors := range [][]int64{nil, {}} {
		got, code := impl.WithFilters(s, factors)
		same(t, "WithFilters", got, s)
		same(t, "WithFilters", code, int64(impl.OK))
		sum, code := impl.TimesOf(factors)
		same(t, "TimesOf", []int64{sum, code}, []int64{0, 0})
	}
	for _, table := range [][]impl.Long{nil, {}} {
		same(t, "ValidTable", impl.ValidTable(table), true)
		extra, code := impl.ExtraFor(table, 45)
		same(t, "ExtraFor", []int64{extra, code}, []int64{0, 0})
		got, code := impl.CorrectedFor(table, setting(45, 18, 3))
		same(t, "CorrectedFor", got, setting(45, 18, 3))
		same(t, "CorrectedFor", code, int64(impl.OK))
		list, code := impl.MeteredFor(table, 45)
		same(t, "MeteredFor", list, []int64{45})
		same(t, "MeteredFor", code, int64(impl.OK))
	}
}

func TestPromise1CodeNames(t *testing.T) {
	names := []string{"ok", "invalid", "range", "limit", "state", "syntax", "notfound", "budget", "proof"}
	codes := []int64{
		impl.OK, impl.ErrInvalid, impl.ErrRange, impl.ErrLimit, impl.ErrState, impl.ErrSyntax, impl.ErrNotFound, impl.ErrBudget, impl.ErrProof,
	}
	for i, name := range names {
		same(t, "code", codes[i], int64(i))
		same(t, "CodeName", impl.CodeName(int64(i)), name)
	}
	for _, code := range edgeNumbers() {
		if code < 0 || code > 8 {
			same(t, "CodeName", impl.CodeName(code), "")
		}
	}
	same(t, "limits", []int64{
		impl.MaxShutter, impl.MaxAperture, impl.MaxSpeed, impl.MaxThirds, impl.MaxTable, impl.MaxFilters,
	}, []int64{45, 30, 21, 36, 10, 4})
}

func TestPromise1StopNames(t *testing.T) {
	shutters := []string{
		"1/1000", "1/500", "1/250", "1/125", "1/60", "1/30", "1/15", "1/8", "1/4", "1/2", "1", "2", "4", "8", "15", "30",
	}
	apertures := []string{"f/1", "f/1.4", "f/2", "f/2.8", "f/4", "f/5.6", "f/8", "f/11", "f/16", "f/22", "f/32"}
	checkNames(t, "shutter", shutters, 45, impl.ShutterName)
	checkNames(t, "aperture", apertures, 30, impl.ApertureName)
}

func checkNames(t *testing.T, what string, stops []string, last int64, nameOf func(int64) string) {
	t.Helper()
	for i, stop := range stops {
		for third, mark := range []string{"", "+1", "+2"} {
			if number := int64(3*i + third); number <= last {
				same(t, what, nameOf(number), stop+mark)
			}
		}
	}
	for _, number := range edgeNumbers() {
		same(t, what, nameOf(number) == "", number < 0 || number > last)
	}
}

func TestPromise1Texts(t *testing.T) {
	for speed := int64(0); speed <= impl.MaxSpeed; speed++ {
		for _, s := range settingsAt(speed) {
			text := impl.SettingText(s)
			read, code := impl.ReadSetting(text)
			if read != s || code != impl.OK {
				t.Fatalf("%q: got %v %d, want %v", text, read, code, s)
			}
		}
	}
	for text, want := range map[string]impl.Setting{
		"1/1000 f/1 0": setting(0, 0, 0), "30 f/32 21": setting(45, 30, 21), "1/1000+2 f/1.4+1 10": setting(2, 4, 10),
		"1+1 f/22+2 9": setting(31, 29, 9), "15+2 f/2.8 1": setting(44, 9, 1), "1 f/16 2": setting(30, 24, 2),
	} {
		same(t, "SettingText", impl.SettingText(want), text)
		read, code := impl.ReadSetting(text)
		same(t, text, read, want)
		same(t, text, code, int64(impl.OK))
	}
}

func TestPromise1TextsNearlyRight(t *testing.T) {
	for _, text := range []string{
		"", " ", "  ", "   ", "0", "1/125", "1/125 ", "1/125 f/8", "1/125 f/8 ", "1/125 0", "1/125  0", "f/8 0", " f/8 0", "  0", "f/8 1/125 0",
		" 1/125 f/8 0", "1/125 f/8 0 ", "1/125  f/8 0", "1/125 f/8  0", "1/125 f/8 0 0", "1/125 f/8 0\n", "1/125\tf/8\t0",
		"1/125 f/8 00", "1/125 f/8 01", "1/125 f/8 +1", "1/125 f/8 -0", "1/125 f/8 -1", "1/125 f/8 22", "1/125 f/8 021",
		"1/125 f/8 256", "1/125 f/8 4294967296", "1/125 f/8 18446744073709551616", "1/125 f/8 0x0", "1/125 f/8 1_0",
		"1/125 f/8 1.0", "1/125 f/8 a", "1/125 f/8 \u0661", "1/125+0 f/8 0", "1/125+3 f/8 0", "1/125-1 f/8 0", "1/125 +1 f/8 0",
		"1/125+1+1 f/8 0", "1/125 f/8+0 0", "1/125 f/8+3 0", "1/125 8 0", "1/125 F/8 0", "125 f/8 0", "1/126 f/8 0",
		"1/125 f/9 0", "1/125 f/1.40 0", "1/125 f/1,4 0", "1/125 f/01 0", "01 f/8 0", "1/125s f/8 0", "9 18 0",
		"30+1 f/1 0", "30+2 f/1 0", "60 f/1 0", "1/2000 f/1 0", "30 f/32+1 0", "30 f/32+2 0", "30 f/45 0",
		"1/125 f/8 0\x00", "\x001/125 f/8 0", "1/125\u00a0f/8 0", "+1 f/8 0", "1/125 +1 0",
	} {
		s, code := impl.ReadSetting(text)
		same(t, text, s, impl.Setting{})
		same(t, text, code, int64(impl.ErrSyntax))
	}
}

// TestPromise1TextsChanged changes single bytes: whatever is read is written just so.
func TestPromise1TextsChanged(t *testing.T) {
	for _, text := range []string{"1/125 f/8 0", "1/1000+2 f/1.4+1 21", "2+1 f/16 12"} {
		for i := 0; i <= len(text); i++ {
			for b := 0; b < 256; b++ {
				checkReadBack(t, text[:i]+string([]byte{byte(b)})+text[i:])
				if i < len(text) {
					checkReadBack(t, text[:i]+string([]byte{byte(b)})+text[i+1:])
				}
			}
			checkReadBack(t, text[:i])
			checkReadBack(t, text[i:])
		}
	}
}

func checkReadBack(t *testing.T, text string) {
	t.Helper()
	s, code := impl.ReadSetting(text)
	if code == impl.OK && impl.SettingText(s) != text || code != impl.OK && (code != impl.ErrSyntax || s != impl.Setting{}) {
		t.Errorf("%q: got %v %d", text, s, code)
	}
}
