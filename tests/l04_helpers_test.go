package tests

import (
	"math/rand"
	"slices"
	"testing"

	"loop.example/g01301/impl"
)

// vat is a bath with its developer.
type vat struct {
	d impl.Developer
	b impl.Bath
}

func exampleDeveloper() impl.Developer {
	return impl.Developer{PerLitre: 1000, Keeps: 100, Base: 20, PerThird: 2}
}

// edgeDevelopers are the example, those with the least and the greatest numbers, and some that leave rests.
func edgeDevelopers() []impl.Developer {
	return []impl.Developer{
		exampleDeveloper(),
		{PerLitre: 100, Keeps: 1, Base: 10, PerThird: 1},
		{PerLitre: 100000, Keeps: 100000, Base: 40, PerThird: 10},
		{PerLitre: 999, Keeps: 7, Base: 23, PerThird: 3},
		{PerLitre: 1001, Keeps: 3333, Base: 19, PerThird: 7},
		{PerLitre: 100, Keeps: 99999, Base: 40, PerThird: 1},
	}
}

// edgeBaths are valid baths with the least and the greatest numbers, those just beside them, and some between.
func edgeBaths(d impl.Developer) []impl.Bath {
	list := []impl.Bath{}
	for _, volume := range []int64{1, 2, 9, 10, 999, 1000, 1001, 2000, 19999, 20000} {
		most := volume * d.PerLitre / 1000
		for _, used := range within(0, most, 0, 1, 2, most/3, most/2, most-1, most) {
			for _, age := range within(0, 100000, 0, 1, d.Keeps/3, d.Keeps-1, d.Keeps, d.Keeps+1, 100000) {
				list = append(list, impl.Bath{Volume: volume, Used: used, Age: age})
			}
		}
	}
	return list
}

// within returns those of some numbers that are low to high, each one once.
func within(low, high int64, numbers ...int64) []int64 {
	list := []int64{}
	for _, n := range numbers {
		if n >= low && n <= high && !slices.Contains(list, n) {
			list = append(list, n)
		}
	}
	return list
}

func edgeVats() []vat {
	list := []vat{}
	for _, d := range edgeDevelopers() {
		for _, b := range edgeBaths(d) {
			list = append(list, vat{d, b})
		}
	}
	return list
}

// anyVats are always the same ones in the same order.
func anyVats(count int) []vat {
	numbers := rand.New(rand.NewSource(5))
	list := []vat{}
	for range count {
		list = append(list, anyVat(numbers))
	}
	return list
}

// anyVat returns a bath that is large or small, and may be older than its developer keeps.
func anyVat(numbers *rand.Rand) vat {
	volumes := []int64{10, 500, 3000, 20000}
	rates := []int64{200, 1500, 100000}
	ages := []int64{20, 1000, 100000}
	d := impl.Developer{
		PerLitre: 100 + numbers.Int63n(rates[numbers.Intn(3)]-99),
		Keeps:    1 + numbers.Int63n(ages[numbers.Intn(3)]),
		Base:     int8(10 + numbers.Intn(31)),
		PerThird: int8(1 + numbers.Intn(10)),
	}
	volume := 1 + numbers.Int63n(volumes[numbers.Intn(4)])
	return vat{d, impl.Bath{
		Volume: volume,
		Used:   numbers.Int63n(volume*d.PerLitre/1000 + 1),
		Age:    numbers.Int63n(min(d.Keeps+d.Keeps/8, 100000) + 1),
	}}
}

// floorBy is the greatest integer of which so many make at most n.
func floorBy(n, parts int64) int64 {
	floor := n / parts
	for floor*parts > n {
		floor--
	}
	for (floor+1)*parts <= n {
		floor++
	}
	return floor
}

func isDeveloper(d impl.Developer) bool {
	return d.PerLitre >= 100 && d.PerLitre <= 100000 && d.Keeps >= 1 && d.Keeps <= 100000 &&
		d.Base >= 10 && d.Base <= 40 && d.PerThird >= 1 && d.PerThird <= 10
}

func isVat(v vat) bool {
	return isDeveloper(v.d) && v.b.Volume >= 1 && v.b.Volume <= 20000 && v.b.Used >= 0 && v.b.Used <= 100000000 &&
		v.b.Age >= 0 && v.b.Age <= 100000 && 1000*v.b.Used <= v.b.Volume*v.d.PerLitre
}

func strengthBy(v vat) int64 {
	if v.b.Age >= v.d.Keeps {
		return 0
	}
	c := v.b.Volume * v.d.PerLitre
	return floorBy(floorBy(1000*(c-1000*v.b.Used), c)*(v.d.Keeps-v.b.Age), v.d.Keeps)
}

// slowerOf returns 37, which is more than all thirds, if no time is long enough.
func slowerOf(strength int64) int64 {
	for k, time := range knownTimes() {
		if time*strength >= 1000000 {
			return int64(k)
		}
	}
	return 37
}

// actBy does an act by the words of the document.
func actBy(v vat, a impl.Act) (impl.Bath, int64) {
	next := v.b
	fits, works := false, true
	switch a.Kind {
	case impl.AcSheet:
		fits, works = a.N >= 1 && a.N <= 5000, slowerOf(strengthBy(v)) <= 36
		next.Used += a.N
	case impl.AcRest:
		fits = a.N >= 0 && a.N <= 100000
		next.Age += a.N
	case impl.AcReplenish:
		fits = a.N >= 0 && a.N <= v.b.Volume
		if fits {
			next.Used = floorBy(v.b.Used*(v.b.Volume-a.N), v.b.Volume)
			next.Age = floorBy(v.b.Age*(v.b.Volume-a.N), v.b.Volume)
		}
	}
	if !fits {
		return impl.Bath{}, impl.ErrRange
	}
	if !works || !isVat(vat{v.d, next}) {
		return impl.Bath{}, impl.ErrState
	}
	return next, impl.OK
}

func sheetAct(area int64) impl.Act {
	return impl.Act{Kind: impl.AcSheet, N: area}
}

func restAct(hours int64) impl.Act {
	return impl.Act{Kind: impl.AcRest, N: hours}
}

func replenishAct(millilitres int64) impl.Act {
	return impl.Act{Kind: impl.AcReplenish, N: millilitres}
}

// actAlone calls the function that does such an act.
func actAlone(v vat, a impl.Act) (impl.Bath, int64) {
	switch a.Kind {
	case impl.AcSheet:
		return impl.DevelopSheet(v.d, v.b, a.N)
	case impl.AcRest:
		return impl.RestBath(v.d, v.b, a.N)
	}
	return impl.Replenish(v.d, v.b, a.N)
}

func strength(t *testing.T, v vat) int64 {
	t.Helper()
	found, code := impl.StrengthOf(v.d, v.b)
	if code != impl.OK || found < 0 || found > impl.Fresh {
		t.Fatalf("StrengthOf %v: got %d %d", v, found, code)
	}
	return found
}

func wantBath(t *testing.T, what string, v vat, b impl.Bath, code int64, want impl.Bath, wantCode int64) {
	t.Helper()
	if b != want || code != wantCode {
		t.Fatalf("%s of %v: got %v %d, want %v %d", what, v, b, code, want, wantCode)
	}
}

func wantNumber(t *testing.T, what string, v vat, n, code, want, wantCode int64) {
	t.Helper()
	if n != want || code != wantCode {
		t.Fatalf("%s of %v: got %d %d, want %d %d", what, v, n, code, want, wantCode)
	}
}
