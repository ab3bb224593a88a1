package tests

import (
	"testing"

	"loop.example/g01301/impl"
)

// apartBy puts the dark mean in the zone 3, and returns how many zones the bright one lies above it.
func apartBy(t *testing.T, dark, bright int64) int64 {
	t.Helper()
	p, code := impl.PlaceFor(dark, 3)
	same(t, "PlaceFor", code, int64(impl.OK))
	zone, code := impl.ZoneOf(p, bright)
	same(t, "ZoneOf", code, int64(impl.OK))
	return zone - 3
}

// TestPromise16Means has all means of two cells: five zones apart is what is told.
func TestPromise16Means(t *testing.T) {
	for dark := int8(0); dark <= 60; dark++ {
		for bright := int8(0); bright <= 60; bright++ {
			s := at(at(even(33), dark, 2), bright, 21)
			got := numbersOf(impl.DevelopBy(s, 1<<2, 1<<21))
			if bright < dark {
				wantNumbers(t, "DevelopBy", got, 0, impl.ErrState)
				continue
			}
			wantNumbers(t, "DevelopBy", got, 5-apartBy(t, int64(dark), int64(bright)), impl.OK)
			wantNumbers(t, "DevelopBy by number", got, 5-floorBy(int64(bright)-int64(dark)+1, 3), impl.OK)
		}
	}
}

// TestPromise16Fields has fields of several cells, which may share some.
func TestPromise16Fields(t *testing.T) {
	found, refused := 0, 0
	for _, s := range someScenes(60) {
		for _, dark := range someFields(40) {
			for _, bright := range someFields(40) {
				low, high := meanOf(readingsIn(s, dark)), meanOf(readingsIn(s, bright))
				if high < low {
					wantNumbers(t, "DevelopBy", numbersOf(impl.DevelopBy(s, dark, bright)), 0, impl.ErrState)
					refused++
					continue
				}
				wantNumbers(t, "DevelopBy", numbersOf(impl.DevelopBy(s, dark, bright)), 5-apartBy(t, low, high), impl.OK)
				found++
			}
		}
	}
	if found < 1000 || refused < 1000 {
		t.Errorf("only %d are found, and %d refused", found, refused)
	}
}

func TestPromise16Cases(t *testing.T) {
	for _, c := range []struct {
		dark, bright int8
		want, code   int64
		whyThatOne   string
	}{
		{20, 20, 5, impl.OK, "equal means"},
		{20, 21, 5, impl.OK, "1 more, which is the same zone"},
		{20, 22, 4, impl.OK, "2 more, which is the next zone"},
		{20, 24, 4, impl.OK, "4 more"},
		{20, 25, 3, impl.OK, "5 more"},
		{20, 33, 1, impl.OK, "just less than five zones"},
		{20, 34, 0, impl.OK, "five zones, as the least"},
		{20, 35, 0, impl.OK, "five zones"},
		{20, 36, 0, impl.OK, "five zones, as the most"},
		{20, 37, -1, impl.OK, "just more than five zones"},
		{20, 60, -8, impl.OK, "many stops more"},
		{0, 60, -15, impl.OK, "the most stops that can be"},
		{0, 0, 5, impl.OK, "the least means"},
		{60, 60, 5, impl.OK, "the greatest means"},
		{20, 19, 0, impl.ErrState, "1 less"},
		{20, 18, 0, impl.ErrState, "2 less"},
		{60, 0, 0, impl.ErrState, "as much less as can be"},
		{1, 0, 0, impl.ErrState, "1 less, the least one"},
	} {
		s := halves(c.dark, c.bright, 12)
		wantNumbers(t, c.whyThatOne, numbersOf(impl.DevelopBy(s, 0xfff, 0xfff000)), c.want, c.code)
		wantNumbers(t, c.whyThatOne+", one cell of each", numbersOf(impl.DevelopBy(s, 1, 1<<23)), c.want, c.code)
	}
}

// TestPromise16Rests has means that are rounded down, each one for itself.
func TestPromise16Rests(t *testing.T) {
	s := impl.Scene{10, 11, 11, 12, 13, 14}
	for _, c := range []struct {
		dark, bright uint32
		want, code   int64
		whyThatOne   string
	}{
		{1<<0 | 1<<1, 1 << 3, 4, impl.OK, "the dark one is rounded to 2 less"},
		{1<<1 | 1<<2, 1 << 3, 5, impl.OK, "1 less without a rest"},
		{1 << 0, 1<<1 | 1<<3, 5, impl.OK, "the bright one is rounded to 1 more"},
		{1 << 0, 1<<1 | 1<<4, 4, impl.OK, "2 more without a rest"},
		{1<<1 | 1<<2, 1<<1 | 1<<3, 5, impl.OK, "both are rounded to the same"},
		{1<<1 | 1<<3, 1<<0 | 1<<3, 5, impl.OK, "equal only when rounded"},
		{1<<1 | 1<<3, 1<<0 | 1<<1, 0, impl.ErrState, "less when rounded too"},
		{0x3f, 0x3f, 5, impl.OK, "the same field"},
		{0x3f, 0x1f, 5, impl.OK, "fields that share cells"},
	} {
		wantNumbers(t, c.whyThatOne, numbersOf(impl.DevelopBy(s, c.dark, c.bright)), c.want, c.code)
	}
}

// TestPromise16Errors has what is wrong with two fields: all of the dark one counts before the bright one, and the means last.
func TestPromise16Errors(t *testing.T) {
	s := exampleScene()
	for _, wrong := range wrongFields() {
		for _, other := range append(someFields(20), 0, wrong, 1<<31) {
			wantNumbers(t, "a wrong dark field", numbersOf(impl.DevelopBy(s, wrong, other)), 0, impl.ErrRange)
			wantNumbers(t, "a wrong first field", numbersOf(impl.BrighterField(s, wrong, other)), 0, impl.ErrRange)
		}
		for _, other := range someFields(20) {
			wantNumbers(t, "a wrong bright field", numbersOf(impl.DevelopBy(s, other, wrong)), 0, impl.ErrRange)
			wantNumbers(t, "a wrong second field", numbersOf(impl.BrighterField(s, other, wrong)), 0, impl.ErrRange)
		}
		wantNumbers(t, "a dark field without a cell, and a wrong one", numbersOf(impl.DevelopBy(s, 0, wrong)), 0, impl.ErrState)
		wantNumbers(t, "a first field without a cell, and a wrong one", numbersOf(impl.BrighterField(s, 0, wrong)), 0, impl.ErrState)
	}
	for _, other := range append(someFields(20), 0) {
		wantNumbers(t, "a dark field without a cell", numbersOf(impl.DevelopBy(s, 0, other)), 0, impl.ErrState)
		wantNumbers(t, "a bright field without a cell", numbersOf(impl.DevelopBy(s, other, 0)), 0, impl.ErrState)
		wantNumbers(t, "a first field without a cell", numbersOf(impl.BrighterField(s, 0, other)), 0, impl.ErrState)
		wantNumbers(t, "a second field without a cell", numbersOf(impl.BrighterField(s, other, 0)), 0, impl.ErrState)
	}
	wantNumbers(t, "a brighter dark field, and a wrong one", numbersOf(impl.DevelopBy(s, 1<<23, 1<<24)), 0, impl.ErrRange)
	wantNumbers(t, "a brighter dark field", numbersOf(impl.DevelopBy(s, 1<<23, 1)), 0, impl.ErrState)
}

// TestPromise16Brighter compares all pairs of fields by their means.
func TestPromise16Brighter(t *testing.T) {
	found := map[int64]int{}
	for _, s := range someScenes(60) {
		for _, a := range someFields(40) {
			for _, b := range someFields(40) {
				want, first, second := int64(0), meanOf(readingsIn(s, a)), meanOf(readingsIn(s, b))
				if first > second {
					want = 1
				}
				if first < second {
					want = -1
				}
				wantNumbers(t, "BrighterField", numbersOf(impl.BrighterField(s, a, b)), want, impl.OK)
				wantNumbers(t, "BrighterField the other way", numbersOf(impl.BrighterField(s, b, a)), -want, impl.OK)
				found[want]++
			}
		}
	}
	if found[0] < 1000 || found[1] < 1000 || found[-1] < 1000 {
		t.Errorf("only %v are found", found)
	}
}

func TestPromise16BrighterCases(t *testing.T) {
	s := exampleScene()
	for _, c := range []struct {
		a, b       uint32
		want       int64
		whyThatOne string
	}{
		{1, 1 << 9, -1, "a darker one"},
		{1 << 9, 1, 1, "a brighter one"},
		{1, 1 << 1, 0, "equal ones"},
		{1, 1, 0, "the same one"},
		{1<<8 | 1<<9, 1<<15 | 1<<14, 0, "equal means of different cells"},
		{wholeField, wholeField &^ (1 << 9), 0, "equal only when rounded"},
		{1 << 23, wholeField, 1, "one cell and all"},
		{wholeField, 1 << 23, -1, "all and one cell"},
	} {
		wantNumbers(t, c.whyThatOne, numbersOf(impl.BrighterField(s, c.a, c.b)), c.want, impl.OK)
	}
	wantNumbers(t, "as much as can be", numbersOf(impl.BrighterField(halves(0, 60, 12), 1<<23, 1)), 1, impl.OK)
	wantNumbers(t, "1 more", numbersOf(impl.BrighterField(halves(20, 21, 12), 1, 1<<23)), -1, impl.OK)
}
