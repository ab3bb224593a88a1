package tests

import (
	"testing"

	"loop.example/g01301/impl"
)

// edgeAreas are the least and the greatest area, those that just fit into a bath, and those just beside them.
func edgeAreas(v vat) []int64 {
	room := v.b.Volume*v.d.PerLitre/1000 - v.b.Used
	return within(1, 5000, 1, 2, 77, 1000, 4999, 5000, room/2, room-1, room, room+1)
}

func TestPromise9Sheets(t *testing.T) {
	for _, v := range append(edgeVats(), anyVats(2000)...) {
		before := strength(t, v)
		for _, area := range edgeAreas(v) {
			want, wantCode := actBy(v, sheetAct(area))
			used, code := impl.DevelopSheet(v.d, v.b, area)
			wantBath(t, "DevelopSheet", v, used, code, want, wantCode)
			if code != impl.OK {
				continue
			}
			if behind := strength(t, vat{v.d, used}); behind > before {
				t.Fatalf("a sheet of %d makes %v stronger: %d, and then %d", area, v, before, behind)
			}
		}
	}
}

func TestPromise9SheetCases(t *testing.T) {
	for _, c := range []struct {
		b          impl.Bath
		area, used int64
		code       int64
		whyThatOne string
	}{
		{impl.Bath{Volume: 1000}, 1, 1, impl.OK, "the least area"},
		{impl.Bath{Volume: 20000}, 5000, 5000, impl.OK, "the greatest area"},
		{impl.Bath{Volume: 1000}, 1000, 1000, impl.OK, "all at once"},
		{impl.Bath{Volume: 1000}, 1001, 0, impl.ErrState, "more than all"},
		{impl.Bath{Volume: 1000, Used: 900}, 100, 1000, impl.OK, "just the rest"},
		{impl.Bath{Volume: 1000, Used: 900}, 101, 0, impl.ErrState, "more than the rest"},
		{impl.Bath{Volume: 1000, Used: 999}, 1, 1000, impl.OK, "the last one, with the strength 1"},
		{impl.Bath{Volume: 2000, Used: 1999}, 1, 0, impl.ErrState, "the last one, with the strength 0"},
		{impl.Bath{Volume: 1000, Used: 1000}, 1, 0, impl.ErrState, "into a spent one"},
		{impl.Bath{Volume: 1000, Age: 99}, 500, 500, impl.OK, "into one that is just not too old"},
		{impl.Bath{Volume: 1000, Age: 100}, 500, 0, impl.ErrState, "into one that is just too old"},
		{impl.Bath{Volume: 1000, Used: 995, Age: 99}, 1, 0, impl.ErrState, "into one that is both, with the strength 0"},
		{impl.Bath{Volume: 1000}, 0, 0, impl.ErrRange, "no area"},
		{impl.Bath{Volume: 20000}, 5001, 0, impl.ErrRange, "more than the greatest area"},
	} {
		want := impl.Bath{}
		if c.code == impl.OK {
			want = impl.Bath{Volume: c.b.Volume, Used: c.used, Age: c.b.Age}
		}
		v := vat{exampleDeveloper(), c.b}
		used, code := impl.DevelopSheet(v.d, v.b, c.area)
		wantBath(t, c.whyThatOne, v, used, code, want, c.code)
	}
}

func TestPromise9Rests(t *testing.T) {
	for _, v := range append(edgeVats(), anyVats(2000)...) {
		left := 100000 - v.b.Age
		for _, hours := range within(0, 100000, 0, 1, 2, 99, v.d.Keeps-v.b.Age, left/2, left-1, left, left+1, 99999, 100000) {
			want, wantCode := actBy(v, restAct(hours))
			old, code := impl.RestBath(v.d, v.b, hours)
			wantBath(t, "RestBath", v, old, code, want, wantCode)
			if code == impl.OK && strength(t, vat{v.d, old}) > strength(t, v) {
				t.Fatalf("a rest of %d makes %v stronger", hours, v)
			}
		}
	}
}

func TestPromise9RestCases(t *testing.T) {
	for _, c := range []struct {
		age, hours, want int64
		code             int64
	}{
		{0, 0, 0, impl.OK}, {0, 1, 1, impl.OK}, {50, 50, 100, impl.OK}, {50, 51, 101, impl.OK}, {100, 5, 105, impl.OK},
		{0, 100000, 100000, impl.OK}, {1, 99999, 100000, impl.OK}, {100000, 0, 100000, impl.OK},
		{1, 100000, 0, impl.ErrState}, {100000, 1, 0, impl.ErrState}, {100000, 100000, 0, impl.ErrState},
		{0, -1, 0, impl.ErrRange}, {5, -1, 0, impl.ErrRange}, {0, 100001, 0, impl.ErrRange}, {100000, 100001, 0, impl.ErrRange},
	} {
		want := impl.Bath{}
		if c.code == impl.OK {
			want = impl.Bath{Volume: 1000, Used: 1000, Age: c.want}
		}
		v := vat{exampleDeveloper(), impl.Bath{Volume: 1000, Used: 1000, Age: c.age}}
		old, code := impl.RestBath(v.d, v.b, c.hours)
		wantBath(t, "RestBath", v, old, code, want, c.code)
	}
}

// edgeMillilitres are nothing, the whole volume, and some between.
func edgeMillilitres(v vat) []int64 {
	return within(0, v.b.Volume, 0, 1, 2, 3, v.b.Volume/7, v.b.Volume/3, v.b.Volume/2, v.b.Volume-2, v.b.Volume-1, v.b.Volume)
}

func TestPromise9Replenished(t *testing.T) {
	for _, v := range append(edgeVats(), anyVats(2000)...) {
		before := strength(t, v)
		for _, millilitres := range edgeMillilitres(v) {
			want, wantCode := actBy(v, replenishAct(millilitres))
			filled, code := impl.Replenish(v.d, v.b, millilitres)
			wantBath(t, "Replenish", v, filled, code, want, wantCode)
			behind := strength(t, vat{v.d, filled})
			if behind < before {
				t.Fatalf("%d replenished make %v weaker: %d, and then %d", millilitres, v, before, behind)
			}
			before = behind
		}
		same(t, "the strength of a bath that is all new", before, int64(1000))
		wantOutcome(t, "more than there is", outcomeOf(impl.Replenish(v.d, v.b, v.b.Volume+1)), impl.ErrRange)
		wantOutcome(t, "less than nothing", outcomeOf(impl.Replenish(v.d, v.b, -1)), impl.ErrRange)
	}
}

func TestPromise9ReplenishCases(t *testing.T) {
	for _, c := range []struct {
		b           impl.Bath
		millilitres int64
		used, age   int64
	}{
		{impl.Bath{Volume: 2000, Used: 500, Age: 50}, 1000, 250, 25},
		{impl.Bath{Volume: 2000, Used: 500, Age: 50}, 0, 500, 50},
		{impl.Bath{Volume: 2000, Used: 500, Age: 50}, 2000, 0, 0},
		{impl.Bath{Volume: 2000, Used: 500, Age: 50}, 1, 499, 49},
		{impl.Bath{Volume: 2000, Used: 500, Age: 50}, 1999, 0, 0},
		{impl.Bath{Volume: 2000, Used: 2000, Age: 100000}, 1999, 1, 50},
		{impl.Bath{Volume: 3, Used: 2, Age: 2}, 1, 1, 1},
		{impl.Bath{Volume: 3, Used: 2, Age: 5}, 2, 0, 1},
		{impl.Bath{Volume: 20000, Used: 20000, Age: 100000}, 1, 19999, 99995},
		{impl.Bath{Volume: 20000, Used: 1, Age: 1}, 1, 0, 0},
		{impl.Bath{Volume: 1, Used: 1, Age: 100000}, 1, 0, 0},
		{impl.Bath{Volume: 1, Used: 1, Age: 100000}, 0, 1, 100000},
	} {
		v := vat{exampleDeveloper(), c.b}
		filled, code := impl.Replenish(v.d, v.b, c.millilitres)
		wantBath(t, "Replenish", v, filled, code, impl.Bath{Volume: c.b.Volume, Used: c.used, Age: c.age}, impl.OK)
	}
}

// sheetsBy develops sheets until one of them cannot be developed, or is too slow.
func sheetsBy(v vat, area, slower int64) int64 {
	for sheets := int64(0); ; sheets++ {
		next, code := actBy(v, sheetAct(area))
		if code != impl.OK || slowerOf(strengthBy(v)) > slower {
			return sheets
		}
		v.b = next
	}
}

func TestPromise9SheetsLeft(t *testing.T) {
	for _, v := range append(edgeVats(), anyVats(500)...) {
		room := v.b.Volume*v.d.PerLitre/1000 - v.b.Used
		before := int64(0)
		for _, slower := range []int64{0, 1, 2, 3, 7, 15, 29, 30, 36} {
			for _, area := range within(max(1, room/50), 5000, 1, 2, 77, 500, 4999, 5000, room/3, room/2, room/2+1, room-1, room, room+1) {
				want := sheetsBy(v, area, slower)
				left, code := impl.SheetsLeft(v.d, v.b, area, slower)
				wantNumber(t, "SheetsLeft", v, left, code, want, impl.OK)
			}
			left, code := impl.SheetsLeft(v.d, v.b, 5000, slower)
			if code != impl.OK || left < before {
				t.Fatalf("SheetsLeft of %v: got %d %d, but %d for less time", v, left, code, before)
			}
			before = left
		}
	}
}

func TestPromise9SheetsLeftCases(t *testing.T) {
	much := impl.Developer{PerLitre: 100000, Keeps: 100, Base: 20, PerThird: 2}
	for _, c := range []struct {
		v            vat
		area, slower int64
		want         int64
		whyThatOne   string
	}{
		{vat{exampleDeveloper(), impl.Bath{Volume: 2000}}, 500, 3, 3, "three, and then it is slower by 6"},
		{vat{exampleDeveloper(), impl.Bath{Volume: 2000}}, 500, 5, 3, "three, as it is slower by 6"},
		{vat{exampleDeveloper(), impl.Bath{Volume: 2000}}, 500, 6, 4, "all four"},
		{vat{exampleDeveloper(), impl.Bath{Volume: 2000}}, 500, 36, 4, "four, and then it is spent"},
		{vat{exampleDeveloper(), impl.Bath{Volume: 2000}}, 500, 2, 2, "two"},
		{vat{exampleDeveloper(), impl.Bath{Volume: 2000}}, 500, 1, 1, "one"},
		{vat{exampleDeveloper(), impl.Bath{Volume: 2000}}, 500, 0, 1, "one, in a fresh bath alone"},
		{vat{exampleDeveloper(), impl.Bath{Volume: 2000, Used: 1}}, 500, 0, 0, "none, in a bath that is not fresh"},
		{vat{exampleDeveloper(), impl.Bath{Volume: 2000}}, 2000, 36, 1, "one that just fits"},
		{vat{exampleDeveloper(), impl.Bath{Volume: 2000}}, 2001, 36, 0, "one that does not fit"},
		{vat{exampleDeveloper(), impl.Bath{Volume: 2000, Used: 2000}}, 1, 36, 0, "none in a spent bath"},
		{vat{exampleDeveloper(), impl.Bath{Volume: 2000, Age: 100}}, 1, 36, 0, "none in an old bath"},
		{vat{exampleDeveloper(), impl.Bath{Volume: 2000, Age: 99}}, 1, 36, 1801, "as long as a hundredth of the strength is 1"},
		{vat{exampleDeveloper(), impl.Bath{Volume: 2000}}, 1, 36, 1999, "before the last one the strength is 0"},
		{vat{much, impl.Bath{Volume: 20000}}, 1, 36, 1998001, "as many as can be"},
		{vat{much, impl.Bath{Volume: 20000}}, 1, 30, 1998001, "as many as can be, with the thirds of the strength 1"},
		{vat{much, impl.Bath{Volume: 20000}}, 1, 29, 1996001, "as long as the strength is 2"},
		{vat{much, impl.Bath{Volume: 20000}}, 1, 0, 1, "one alone in a large bath"},
		{vat{much, impl.Bath{Volume: 20000}}, 5000, 36, 400, "the largest ones, which leave just nothing"},
	} {
		left, code := impl.SheetsLeft(c.v.d, c.v.b, c.area, c.slower)
		wantNumber(t, c.whyThatOne, c.v, left, code, c.want, impl.OK)
	}
}
