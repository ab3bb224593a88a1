package tests

import (
	"slices"
	"testing"

	"loop.example/g01301/impl"
)

// leastBy tries all millilitres from 0 on, and returns -1 if none are enough.
func leastBy(v vat, isEnough func(behind vat) bool) int64 {
	for millilitres := int64(0); millilitres <= v.b.Volume; millilitres++ {
		behind, _ := actBy(v, replenishAct(millilitres))
		if isEnough(vat{v.d, behind}) {
			return millilitres
		}
	}
	return -1
}

// TestPromise10Replenished replenishes as told, and with one millilitre less, and with half of them.
func TestPromise10Replenished(t *testing.T) {
	for _, v := range append(edgeVats(), anyVats(2000)...) {
		before := strength(t, v)
		for _, told := range within(0, 1000, 0, 1, 2, 375, 500, 875, before-1, before, before+1, 998, 999, 1000) {
			millilitres, code := impl.ReplenishFor(v.d, v.b, told)
			if code != impl.OK || millilitres < 0 || millilitres > v.b.Volume || told <= before && millilitres != 0 {
				t.Fatalf("ReplenishFor %d of %v: got %d %d", told, v, millilitres, code)
			}
			filled, code := impl.Replenish(v.d, v.b, millilitres)
			behind := strength(t, vat{v.d, filled})
			if code != impl.OK || behind < told || behind < before {
				t.Fatalf("%d replenished for %d make %v only %d", millilitres, told, v, behind)
			}
			for _, less := range within(0, millilitres-1, 0, millilitres/2, millilitres-1) {
				filled, code = impl.Replenish(v.d, v.b, less)
				if code != impl.OK || strength(t, vat{v.d, filled}) >= told {
					t.Fatalf("%d are told for %d of %v, but %d are enough", millilitres, told, v, less)
				}
			}
		}
	}
}

// TestPromise10Least tries all millilitres there are.
func TestPromise10Least(t *testing.T) {
	for _, v := range append(anyVats(1000), edgeVats()...) {
		if v.b.Volume > 2000 {
			continue
		}
		for _, told := range []int64{0, 1, 600, 875, 999, 1000} {
			want := leastBy(v, func(behind vat) bool { return strengthBy(behind) >= told })
			millilitres, code := impl.ReplenishFor(v.d, v.b, told)
			wantNumber(t, "ReplenishFor", v, millilitres, code, want, impl.OK)
		}
	}
}

func TestPromise10ReplenishForCases(t *testing.T) {
	for _, c := range []struct {
		b          impl.Bath
		strength   int64
		want, code int64
		whyThatOne string
	}{
		{impl.Bath{Volume: 2000, Used: 500}, 875, 997, impl.OK, "250 used, which are rounded down"},
		{impl.Bath{Volume: 2000, Used: 500}, 750, 0, impl.OK, "as strong as it is"},
		{impl.Bath{Volume: 2000, Used: 500}, 751, 5, impl.OK, "just stronger than it is"},
		{impl.Bath{Volume: 2000, Used: 500}, 0, 0, impl.OK, "nothing told"},
		{impl.Bath{Volume: 2000, Used: 500}, 1000, 1997, impl.OK, "less than one used"},
		{impl.Bath{Volume: 2000, Used: 2000}, 0, 0, impl.OK, "nothing told of a spent bath"},
		{impl.Bath{Volume: 2000, Used: 2000}, 1, 2, impl.OK, "the least of a spent bath"},
		{impl.Bath{Volume: 2000, Used: 2000}, 1000, 2000, impl.OK, "the whole volume"},
		{impl.Bath{Volume: 2000, Age: 100000}, 1, 1999, impl.OK, "the least of the oldest bath"},
		{impl.Bath{Volume: 2000, Age: 100000}, 1000, 2000, impl.OK, "the whole volume of the oldest bath"},
		{impl.Bath{Volume: 2000, Age: 100}, 1, 1, impl.OK, "the least of a bath that is just too old"},
		{impl.Bath{Volume: 2000}, 1000, 0, impl.OK, "a new bath"},
		{impl.Bath{Volume: 1, Used: 1}, 1, 1, impl.OK, "the smallest bath"},
		{impl.Bath{Volume: 1, Used: 1}, 0, 0, impl.OK, "the smallest bath, nothing told"},
		{impl.Bath{Volume: 2000, Used: 500}, -1, 0, impl.ErrRange, "less than nothing"},
		{impl.Bath{Volume: 2000, Used: 500}, 1001, 0, impl.ErrRange, "stronger than fresh"},
	} {
		v := vat{exampleDeveloper(), c.b}
		millilitres, code := impl.ReplenishFor(v.d, v.b, c.strength)
		wantNumber(t, c.whyThatOne, v, millilitres, code, c.want, c.code)
	}
}

// replenishedBy tries all millilitres from 0 on before each sheet.
func replenishedBy(v vat, areas []int64, slower int64) ([]int64, int64, int64) {
	list, sum := []int64{}, int64(0)
	for _, area := range areas {
		millilitres := leastBy(v, func(behind vat) bool {
			_, code := actBy(behind, sheetAct(area))
			return code == impl.OK && slowerOf(strengthBy(behind)) <= slower
		})
		if millilitres == -1 {
			return nil, 0, impl.ErrNotFound
		}
		list, sum = append(list, millilitres), sum+millilitres
		v.b, _ = actBy(v, replenishAct(millilitres))
		v.b, _ = actBy(v, sheetAct(area))
	}
	return list, sum, impl.OK
}

// someAreas returns lists of areas for a bath: small ones, large ones, those that just fit, and one that does not.
func someAreas(v vat) [][]int64 {
	room := v.b.Volume * v.d.PerLitre / 1000
	fitting := min(max(room, 1), 5000)
	return [][]int64{
		{1}, {5000}, {fitting}, {fitting, fitting}, {max(fitting/3, 1), max(fitting/2, 1), fitting, 1},
		slices.Repeat([]int64{max(fitting/7, 1)}, 12), {1, fitting, min(room+1, 5000)},
	}
}

func TestPromise10LeastReplenished(t *testing.T) {
	for i, v := range append(anyVats(600), edgeVats()...) {
		if v.b.Volume > 3000 || i > 600 && i%3 > 0 {
			continue
		}
		for _, areas := range someAreas(v) {
			for _, slower := range []int64{0, 2, 9, 36} {
				want, wantSum, wantCode := replenishedBy(v, areas, slower)
				list, sum, code := impl.LeastReplenished(v.d, v.b, areas, slower)
				if !slices.Equal(list, want) || sum != wantSum || code != wantCode {
					t.Fatalf("LeastReplenished %v %d of %v: got %v %d %d, want %v %d %d", areas, slower, v, list, sum, code, want, wantSum, wantCode)
				}
				checkDeveloped(t, v, areas, list, slower)
			}
		}
	}
}

// checkDeveloped does what is told as acts, none of which may be too slow, and each millilitre of which is needed.
func checkDeveloped(t *testing.T, v vat, areas, list []int64, slower int64) {
	t.Helper()
	for i, millilitres := range list {
		if millilitres > 0 {
			less, _ := impl.Replenish(v.d, v.b, millilitres-1)
			sheets, _ := impl.SheetsFrom(v.d, less, areas[i:i+1], slower)
			same(t, "sheets behind less millilitres", sheets, int64(0))
		}
		filled, code := impl.Replenish(v.d, v.b, millilitres)
		same(t, "the code of Replenish", code, int64(impl.OK))
		by, code := impl.SlowerBy(strength(t, vat{v.d, filled}))
		if code != impl.OK || by > slower {
			t.Fatalf("%v is slower by %d %d, but %d are told", filled, by, code, slower)
		}
		v.b, code = impl.DevelopSheet(v.d, filled, areas[i])
		same(t, "the code of DevelopSheet", code, int64(impl.OK))
	}
}

func TestPromise10LeastReplenishedCases(t *testing.T) {
	sixty := slices.Repeat([]int64{1}, 60)
	for _, c := range []struct {
		b          impl.Bath
		areas      []int64
		slower     int64
		want       []int64
		sum, code  int64
		whyThatOne string
	}{
		{impl.Bath{Volume: 2000}, []int64{500, 500, 500, 1500}, 3, []int64{0, 0, 0, 1333}, 1333, impl.OK, "before the last one alone"},
		{impl.Bath{Volume: 2000}, []int64{2000, 2000}, 36, []int64{0, 2000}, 2000, impl.OK, "the whole volume"},
		{impl.Bath{Volume: 2000}, []int64{2000, 1999}, 36, []int64{0, 1999}, 1999, impl.OK, "one used, and just room for the rest"},
		{impl.Bath{Volume: 2000}, []int64{2001}, 36, nil, 0, impl.ErrNotFound, "not even in a new bath"},
		{impl.Bath{Volume: 2000}, []int64{1, 1, 2001}, 36, nil, 0, impl.ErrNotFound, "the last one not even in a new bath"},
		{impl.Bath{Volume: 2000}, []int64{2001, 1}, 36, nil, 0, impl.ErrNotFound, "the first one not even in a new bath"},
		{impl.Bath{Volume: 2000, Age: 100000}, []int64{1}, 36, []int64{1999}, 1999, impl.OK, "the oldest bath, which becomes less old"},
		{impl.Bath{Volume: 2000, Age: 50}, []int64{1}, 3, []int64{0}, 0, impl.OK, "half its age, and just not too slow"},
		{impl.Bath{Volume: 2000, Age: 50}, []int64{1}, 2, []int64{521}, 521, impl.OK, "half its age, and too slow"},
		{impl.Bath{Volume: 2000, Used: 500}, []int64{1, 1}, 0, []int64{1997, 1}, 1998, impl.OK, "in a fresh bath alone"},
		{impl.Bath{Volume: 2000}, sixty, 36, make([]int64, 60), 0, impl.OK, "as many as can be"},
		{impl.Bath{Volume: 2000}, append(sixty[:60:60], 1), 36, nil, 0, impl.ErrLimit, "one too many"},
		{impl.Bath{Volume: 1, Used: 1}, []int64{1, 1, 1}, 0, []int64{1, 1, 1}, 3, impl.OK, "the smallest bath"},
		{impl.Bath{Volume: 20000}, []int64{5000, 5000, 5000, 5000, 5000}, 36, []int64{0, 0, 0, 0, 5000}, 5000, impl.OK, "the largest bath"},
	} {
		v := vat{exampleDeveloper(), c.b}
		list, sum, code := impl.LeastReplenished(v.d, v.b, c.areas, c.slower)
		if !slices.Equal(list, c.want) || sum != c.sum || code != c.code {
			t.Errorf("%s: got %v %d %d, want %v %d %d", c.whyThatOne, list, sum, code, c.want, c.sum, c.code)
		}
	}
}
