package tests

import (
	"testing"

	"loop.example/g01301/impl"
)

func TestNewBaths(t *testing.T) {
	for _, d := range edgeDevelopers() {
		for _, volume := range []int64{1, 2, 1000, 19999, 20000} {
			b, code := impl.NewBath(d, volume)
			wantBath(t, "NewBath", vat{d, b}, b, code, impl.Bath{Volume: volume}, impl.OK)
			same(t, "ValidBath", impl.ValidBath(d, b), true)
			same(t, "the strength of a new bath", strength(t, vat{d, b}), int64(1000))
		}
	}
}

func TestStrengths(t *testing.T) {
	for _, v := range append(edgeVats(), anyVats(3000)...) {
		if got := strength(t, v); got != strengthBy(v) {
			t.Fatalf("StrengthOf %v: got %d, want %d", v, got, strengthBy(v))
		}
	}
}

// TestStrengthCases has strengths that are rounded down, twice too, and ages at Keeps and just beside it.
func TestStrengthCases(t *testing.T) {
	for _, c := range []struct {
		perLitre, keeps, volume, used, age int64
		want                               int64
		whyThatOne                         string
	}{
		{1000, 100, 2000, 500, 0, 750, "a quarter used"},
		{1000, 100, 2000, 500, 50, 375, "and half its age"},
		{1000, 100, 1000, 0, 99, 10, "just before it is too old"},
		{1000, 100, 1000, 0, 100, 0, "just too old"},
		{1000, 100, 1000, 0, 101, 0, "older than it keeps"},
		{1000, 100, 1000, 0, 100000, 0, "as old as can be"},
		{1000, 100000, 1000, 0, 99999, 0, "less than 1 for its age"},
		{1000, 100000, 1000, 0, 99900, 1, "just 1 for its age"},
		{1000, 100000, 1000, 0, 99901, 0, "just less than 1 for its age"},
		{1000, 100000, 1000, 0, 1, 999, "an hour old"},
		{1000, 1, 1000, 0, 0, 1000, "new, but keeping an hour only"},
		{1000, 1, 1000, 0, 1, 0, "an hour old, keeping an hour"},
		{1000, 100, 1000, 1000, 0, 0, "just spent"},
		{1000, 100, 1000, 999, 0, 1, "just before it is spent"},
		{100000, 100, 20000, 2000000, 0, 0, "much, just spent"},
		{100000, 100, 20000, 1999999, 0, 0, "much, with less than 1 left"},
		{100000, 100, 20000, 1998000, 0, 1, "much, with just 1 left"},
		{100000, 100, 20000, 1998001, 0, 0, "much, with just less than 1 left"},
		{100000, 100, 20000, 1, 0, 999, "much, with one used"},
		{1000, 100, 3000, 1000, 0, 666, "two thirds"},
		{1000, 100, 3000, 1000, 50, 333, "half of two thirds"},
		{1000, 7, 3000, 2000, 2, 237, "333 that are rounded down before 5 sevenths of them"},
		{1000, 3, 3000, 1000, 1, 444, "666 that are rounded down"},
		{1000, 1000, 3000, 2000, 1, 332, "333 that are rounded down, for an hour of a thousand"},
		{100, 100, 9, 0, 0, 1000, "no room for one square centimetre"},
		{999, 100, 1, 0, 0, 1000, "less than one square centimetre"},
		{999, 100, 2, 1, 0, 499, "one of nearly two"},
	} {
		d := impl.Developer{PerLitre: c.perLitre, Keeps: c.keeps, Base: 20, PerThird: 2}
		v := vat{d, impl.Bath{Volume: c.volume, Used: c.used, Age: c.age}}
		if got := strength(t, v); got != c.want || got != strengthBy(v) {
			t.Errorf("%s: got %d, want %d", c.whyThatOne, got, c.want)
		}
	}
}

// TestSlower tries all strengths, and has those at which the thirds change.
func TestSlower(t *testing.T) {
	before := int64(37)
	for n := int64(1); n <= 1000; n++ {
		slower, code := impl.SlowerBy(n)
		if code != impl.OK || slower != slowerOf(n) || slower > before {
			t.Fatalf("SlowerBy %d: got %d %d, want %d", n, slower, code, slowerOf(n))
		}
		before = slower
	}
	for n, want := range map[int64]int64{
		1000: 0, 999: 1, 794: 1, 793: 2, 750: 2, 631: 2, 630: 3, 500: 3, 499: 4, 397: 4, 396: 5, 375: 5, 316: 5, 315: 6, 250: 6, 249: 7,
		125: 9, 124: 10, 100: 10, 10: 20, 8: 21, 7: 22, 4: 24, 3: 26, 2: 27, 1: 30,
	} {
		slower, code := impl.SlowerBy(n)
		same(t, "SlowerBy", []int64{n, slower, code}, []int64{n, want, impl.OK})
	}
	wantOutcome(t, "SlowerBy 0", outcomeOf(impl.SlowerBy(0)), impl.ErrNotFound)
}

func timeBy(v vat, thirds, degrees int64) (int64, int64) {
	slower := slowerOf(strengthBy(v))
	if slower == 37 {
		return 0, impl.ErrState
	}
	sum := thirds + slower + floorBy(int64(v.d.Base)-degrees, int64(v.d.PerThird))
	if sum < 0 || sum > 36 {
		return 0, impl.ErrLimit
	}
	return knownTimes()[sum], impl.OK
}

func TestDevelopTimes(t *testing.T) {
	for i, v := range append(edgeVats(), anyVats(500)...) {
		if i%3 > 0 {
			continue
		}
		for degrees := int64(5); degrees <= 50; degrees++ {
			for _, thirds := range []int64{0, 1, 4, 18, 35, 36} {
				want, wantCode := timeBy(v, thirds, degrees)
				time, code := impl.DevelopTime(v.d, v.b, thirds, degrees)
				wantNumber(t, "DevelopTime", v, time, code, want, wantCode)
			}
		}
	}
}

// TestDevelopTimeCases has degrees around Base, which are rounded down on both sides of it.
func TestDevelopTimeCases(t *testing.T) {
	for _, c := range []struct {
		base, perThird  int8
		used, age       int64
		thirds, degrees int64
		want, code      int64
		whyThatOne      string
	}{
		{20, 2, 500, 50, 3, 18, 8000, impl.OK, "a third colder, in a bath that is slower by 6"},
		{20, 3, 0, 0, 5, 20, 3174, impl.OK, "at Base"},
		{20, 3, 0, 0, 5, 19, 3174, impl.OK, "less than a third colder"},
		{20, 3, 0, 0, 5, 18, 3174, impl.OK, "just less than a third colder"},
		{20, 3, 0, 0, 5, 17, 4000, impl.OK, "a third colder"},
		{20, 3, 0, 0, 5, 15, 4000, impl.OK, "more than a third colder"},
		{20, 3, 0, 0, 5, 14, 5040, impl.OK, "two thirds colder"},
		{20, 3, 0, 0, 5, 21, 2520, impl.OK, "less than a third warmer, rounded down"},
		{20, 3, 0, 0, 5, 22, 2520, impl.OK, "just less than a third warmer"},
		{20, 3, 0, 0, 5, 23, 2520, impl.OK, "a third warmer"},
		{20, 3, 0, 0, 5, 24, 2000, impl.OK, "just more than a third warmer"},
		{20, 3, 0, 0, 5, 26, 2000, impl.OK, "two thirds warmer"},
		{20, 3, 0, 0, 5, 27, 1587, impl.OK, "just more than two thirds warmer"},
		{20, 10, 0, 0, 1, 21, 1000, impl.OK, "one degree of ten warmer, and just no time left"},
		{20, 10, 0, 0, 0, 21, 0, impl.ErrLimit, "one degree of ten warmer than the least"},
		{20, 10, 0, 0, 0, 20, 1000, impl.OK, "the least"},
		{20, 10, 0, 0, 36, 20, 4096000, impl.OK, "the most"},
		{20, 10, 0, 0, 36, 11, 4096000, impl.OK, "the most, and just not colder"},
		{20, 10, 0, 0, 36, 10, 0, impl.ErrLimit, "colder than the most"},
		{20, 10, 1, 0, 36, 20, 0, impl.ErrLimit, "slower than the most"},
		{20, 10, 1, 0, 36, 21, 4096000, impl.OK, "slower than the most, but warmer"},
		{40, 1, 0, 0, 1, 5, 4096000, impl.OK, "as cold as can be, and just the most"},
		{40, 1, 0, 0, 2, 5, 0, impl.ErrLimit, "as cold as can be"},
		{10, 1, 0, 0, 36, 50, 0, impl.ErrLimit, "as warm as can be"},
		{11, 1, 0, 0, 36, 50, 0, impl.ErrLimit, "39 degrees too warm"},
		{14, 1, 0, 0, 36, 50, 1000, impl.OK, "36 degrees warmer"},
		{20, 2, 1999, 0, 0, 20, 0, impl.ErrState, "less than 1 left"},
		{20, 2, 1998, 0, 0, 20, 1024000, impl.OK, "just 1 left"},
		{20, 2, 1998, 0, 6, 20, 4096000, impl.OK, "just 1 left, and the most"},
		{20, 2, 1998, 0, 7, 20, 0, impl.ErrLimit, "just 1 left, and more than the most"},
		{20, 2, 0, 100, 0, 20, 0, impl.ErrState, "too old"},
	} {
		v := vat{impl.Developer{PerLitre: 1000, Keeps: 100, Base: c.base, PerThird: c.perThird}, impl.Bath{Volume: 2000, Used: c.used, Age: c.age}}
		time, code := impl.DevelopTime(v.d, v.b, c.thirds, c.degrees)
		wantNumber(t, c.whyThatOne, v, time, code, c.want, c.code)
	}
}

func mixedBy(a, b impl.Bath) (impl.Bath, int64) {
	if a.Volume+b.Volume > 20000 {
		return impl.Bath{}, impl.ErrLimit
	}
	age := floorBy(a.Age*a.Volume+b.Age*b.Volume, a.Volume+b.Volume)
	return impl.Bath{Volume: a.Volume + b.Volume, Used: a.Used + b.Used, Age: age}, impl.OK
}

func TestMixed(t *testing.T) {
	for _, d := range edgeDevelopers() {
		baths := edgeBaths(d)
		for i, a := range baths {
			for k := i % 11; k < len(baths); k += 11 {
				want, wantCode := mixedBy(a, baths[k])
				mixed, code := impl.MixBaths(d, a, baths[k])
				wantBath(t, "MixBaths", vat{d, a}, mixed, code, want, wantCode)
				if code == impl.OK && !impl.ValidBath(d, mixed) {
					t.Fatalf("MixBaths of %v, %v and %v: %v is not valid", d, a, baths[k], mixed)
				}
				turned, code := impl.MixBaths(d, baths[k], a)
				wantBath(t, "MixBaths turned around", vat{d, a}, turned, code, want, wantCode)
			}
		}
	}
}

func TestMixCases(t *testing.T) {
	for _, c := range []struct {
		a, b, want impl.Bath
		code       int64
		whyThatOne string
	}{
		{impl.Bath{Volume: 2000, Used: 500, Age: 50}, impl.Bath{Volume: 1000}, impl.Bath{Volume: 3000, Used: 500, Age: 33}, impl.OK, "a third of new bath"},
		{impl.Bath{Volume: 1, Age: 1}, impl.Bath{Volume: 1}, impl.Bath{Volume: 2}, impl.OK, "half an hour, rounded down"},
		{impl.Bath{Volume: 1, Age: 1}, impl.Bath{Volume: 1, Age: 2}, impl.Bath{Volume: 2, Age: 1}, impl.OK, "an hour and a half"},
		{impl.Bath{Volume: 3, Age: 8}, impl.Bath{Volume: 1, Age: 100}, impl.Bath{Volume: 4, Age: 31}, impl.OK, "counted by millilitres"},
		{impl.Bath{Volume: 1, Age: 8}, impl.Bath{Volume: 3, Age: 100}, impl.Bath{Volume: 4, Age: 77}, impl.OK, "counted by millilitres of the other one"},
		{impl.Bath{Volume: 19999, Used: 19999, Age: 100000}, impl.Bath{Volume: 1, Used: 1, Age: 100000}, impl.Bath{Volume: 20000, Used: 20000, Age: 100000}, impl.OK, "just all that fits"},
		{impl.Bath{Volume: 10000}, impl.Bath{Volume: 10000}, impl.Bath{Volume: 20000}, impl.OK, "just the volume that fits"},
		{impl.Bath{Volume: 10000}, impl.Bath{Volume: 10001}, impl.Bath{}, impl.ErrLimit, "one millilitre too many"},
		{impl.Bath{Volume: 20000}, impl.Bath{Volume: 1}, impl.Bath{}, impl.ErrLimit, "into a full one"},
		{impl.Bath{Volume: 20000}, impl.Bath{Volume: 20000}, impl.Bath{}, impl.ErrLimit, "two full ones"},
		{impl.Bath{Volume: 20000}, impl.Bath{}, impl.Bath{}, impl.ErrInvalid, "nothing to mix with"},
		{impl.Bath{Volume: 20000}, impl.Bath{Volume: 1, Used: 2}, impl.Bath{}, impl.ErrInvalid, "invalid, and too much"},
		{impl.Bath{Volume: 20001}, impl.Bath{Volume: 20000}, impl.Bath{}, impl.ErrInvalid, "too much by itself"},
	} {
		v := vat{exampleDeveloper(), c.a}
		mixed, code := impl.MixBaths(v.d, c.a, c.b)
		wantBath(t, c.whyThatOne, v, mixed, code, c.want, c.code)
		mixed, code = impl.MixBaths(v.d, c.b, c.a)
		wantBath(t, c.whyThatOne, v, mixed, code, c.want, c.code)
	}
}
