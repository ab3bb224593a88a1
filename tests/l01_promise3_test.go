package tests

import (
	"slices"
	"testing"

	"loop.example/g01301/impl"
)

// knownTimes are written out, so that the rounding of each single one is checked.
func knownTimes() []int64 {
	return []int64{
		1000, 1260, 1587, 2000, 2520, 3174, 4000, 5040, 6348, 8000, 10080, 12696, 16000, 20160, 25392, 32000, 40320, 50784,
		64000, 80640, 101568, 128000, 161280, 203136, 256000, 322560, 406272, 512000, 645120, 812544, 1024000, 1290240, 1625088,
		2048000, 2580480, 3250176, 4096000,
	}
}

func TestPromise3Times(t *testing.T) {
	before := int64(0)
	for k, want := range knownTimes() {
		time, code := impl.TimeOf(int64(k))
		same(t, "TimeOf", []int64{time, code}, []int64{want, impl.OK})
		if time <= before {
			t.Errorf("TimeOf %d: %d is not more than %d", k, time, before)
		}
		before = time
	}
	for _, k := range edgeNumbers() {
		if k < 0 || k > 36 {
			time, code := impl.TimeOf(k)
			same(t, "TimeOf", []int64{time, code}, []int64{0, impl.ErrRange})
		}
	}
}

// someMilliseconds are all short times, and those around each time and around the middle between it and the next one.
func someMilliseconds() []int64 {
	list := []int64{99999999, 100000000, 4096001, 6000000}
	for milliseconds := int64(0); milliseconds <= 20000; milliseconds++ {
		list = append(list, milliseconds)
	}
	times := knownTimes()
	for k, time := range times {
		middle := time
		if k > 0 {
			middle = (times[k-1] + time) / 2
		}
		for by := int64(-2); by <= 2; by++ {
			list = append(list, time+by, middle+by)
		}
	}
	return list
}

func TestPromise3ThirdsIn(t *testing.T) {
	for _, milliseconds := range someMilliseconds() {
		want, wantCode := int64(-1), int64(impl.OK)
		for _, time := range knownTimes() {
			if time <= milliseconds {
				want++
			}
		}
		if want < 0 {
			want, wantCode = 0, impl.ErrNotFound
		}
		thirds, code := impl.ThirdsIn(milliseconds)
		if thirds != want || code != wantCode {
			t.Fatalf("ThirdsIn %d: got %d %d, want %d %d", milliseconds, thirds, code, want, wantCode)
		}
	}
	for milliseconds, want := range map[int64][]int64{
		0: {0, impl.ErrNotFound}, 999: {0, impl.ErrNotFound}, 1000: {0, impl.OK}, 1259: {0, impl.OK}, 1260: {1, impl.OK},
		4095999: {35, impl.OK}, 4096000: {36, impl.OK}, 100000000: {36, impl.OK},
		100000001: {0, impl.ErrRange}, -1: {0, impl.ErrRange}, -1000: {0, impl.ErrRange},
	} {
		thirds, code := impl.ThirdsIn(milliseconds)
		same(t, "ThirdsIn", []int64{thirds, code}, want)
	}
}

// nearestOf scans from the longest time on, so that the lesser one of two stays.
func nearestOf(milliseconds int64) int64 {
	times := knownTimes()
	nearest := 36
	for k := 35; k >= 0; k-- {
		if (times[k]-milliseconds)*(times[k]-milliseconds) <= (times[nearest]-milliseconds)*(times[nearest]-milliseconds) {
			nearest = k
		}
	}
	return int64(nearest)
}

func TestPromise3NearestThirds(t *testing.T) {
	for _, milliseconds := range someMilliseconds() {
		thirds, code := impl.NearestThirds(milliseconds)
		if thirds != nearestOf(milliseconds) || code != impl.OK {
			t.Fatalf("NearestThirds %d: got %d %d", milliseconds, thirds, code)
		}
	}
	for milliseconds, want := range map[int64][]int64{
		0: {0, impl.OK}, 999: {0, impl.OK}, 1000: {0, impl.OK}, 1130: {0, impl.OK}, 1131: {1, impl.OK},
		1423: {1, impl.OK}, 1424: {2, impl.OK}, 2260: {3, impl.OK}, 2261: {4, impl.OK}, 2847: {4, impl.OK}, 2848: {5, impl.OK},
		100000000: {36, impl.OK}, 100000001: {0, impl.ErrRange}, -1: {0, impl.ErrRange},
	} {
		thirds, code := impl.NearestThirds(milliseconds)
		same(t, "NearestThirds", []int64{thirds, code}, want)
	}
}

// TestPromise3Milliseconds checks that the ranges of both are told from each other at the edges of int64.
func TestPromise3Milliseconds(t *testing.T) {
	for _, milliseconds := range edgeNumbers() {
		if milliseconds < 0 || milliseconds > 100000000 {
			thirds, code := impl.ThirdsIn(milliseconds)
			same(t, "ThirdsIn", []int64{thirds, code}, []int64{0, impl.ErrRange})
			thirds, code = impl.NearestThirds(milliseconds)
			same(t, "NearestThirds", []int64{thirds, code}, []int64{0, impl.ErrRange})
		}
	}
}

func TestPromise3FactorThirds(t *testing.T) {
	for factor := int64(1); factor <= 1000; factor++ {
		want := int64(slices.IndexFunc(knownTimes(), func(time int64) bool { return time >= 1000*factor }))
		thirds, code := impl.FactorThirds(factor)
		same(t, "FactorThirds", []int64{thirds, code}, []int64{want, impl.OK})
	}
	for factor, want := range map[int64][]int64{
		1: {0, impl.OK}, 2: {3, impl.OK}, 5: {7, impl.OK}, 6: {8, impl.OK}, 7: {9, impl.OK}, 8: {9, impl.OK}, 9: {10, impl.OK},
		512: {27, impl.OK}, 513: {28, impl.OK}, 1000: {30, impl.OK}, 1001: {0, impl.ErrRange}, 0: {0, impl.ErrRange}, -1: {0, impl.ErrRange},
	} {
		thirds, code := impl.FactorThirds(factor)
		same(t, "FactorThirds", []int64{thirds, code}, want)
	}
	for _, factor := range edgeNumbers() {
		if factor < 1 || factor > 1000 {
			thirds, code := impl.FactorThirds(factor)
			same(t, "FactorThirds", []int64{thirds, code}, []int64{0, impl.ErrRange})
		}
	}
}

func TestPromise3TimesOf(t *testing.T) {
	hundred := slices.Repeat([]int64{36}, 100)
	for _, c := range []struct {
		list       []int64
		want, code int64
	}{
		{nil, 0, impl.OK},
		{[]int64{0}, 1000, impl.OK},
		{[]int64{0, 3, 1}, 4260, impl.OK},
		{[]int64{2, 2, 36}, 4099174, impl.OK},
		{hundred, 409600000, impl.OK},
		{append(slices.Clone(hundred), 0), 0, impl.ErrRange},
		{[]int64{37}, 0, impl.ErrRange},
		{[]int64{-1}, 0, impl.ErrRange},
		{[]int64{1, 2, 37}, 0, impl.ErrRange},
		{[]int64{1, -1, 3}, 0, impl.ErrRange},
	} {
		sum, code := impl.TimesOf(c.list)
		same(t, "TimesOf", []int64{sum, code}, []int64{c.want, c.code})
	}
}

func TestPromise3EnlargedByAll(t *testing.T) {
	for thirds, time := range knownTimes() {
		for before := int64(1); before <= 100; before++ {
			for after := int64(1); after <= 100; after++ {
				got, code := impl.EnlargedBy(int64(thirds), before, after)
				milliseconds := time * after * after / (before * before)
				want, wantCode := int64(0), int64(impl.ErrLimit)
				if milliseconds <= 100000000 {
					want, wantCode = nearestOf(milliseconds), impl.OK
				}
				if got != want || code != wantCode {
					t.Fatalf("EnlargedBy %d %d %d: got %d %d, want %d %d", thirds, before, after, got, code, want, wantCode)
				}
			}
		}
	}
}

func TestPromise3EnlargedByCases(t *testing.T) {
	for _, c := range []struct{ thirds, before, after, want, code int64 }{
		{0, 10, 20, 6, impl.OK},
		{6, 20, 10, 0, impl.OK},
		{13, 7, 7, 13, impl.OK},
		{0, 100, 1, 0, impl.OK},
		{36, 1, 1, 36, impl.OK},
		{0, 16, 27, 4, impl.OK}, // 2847.66 is 2847, in the middle between 4 and 5
		{0, 31, 37, 2, impl.OK}, // 1424.56; by 37 / 31 twice, rounded each time, it would be 1422
		{31, 5, 44, 36, impl.OK},
		{36, 17, 84, 0, impl.ErrLimit}, // 100004761
		{36, 1, 100, 0, impl.ErrLimit},
		{37, 1, 100, 0, impl.ErrRange},
		{-1, 1, 1, 0, impl.ErrRange},
		{0, 0, 1, 0, impl.ErrRange},
		{0, -1, 1, 0, impl.ErrRange},
		{0, 101, 1, 0, impl.ErrRange},
		{0, 1, 0, 0, impl.ErrRange},
		{0, 1, -1, 0, impl.ErrRange},
		{36, 1, 101, 0, impl.ErrRange},
	} {
		got, code := impl.EnlargedBy(c.thirds, c.before, c.after)
		if got != c.want || code != c.code {
			t.Errorf("EnlargedBy %d %d %d: got %d %d, want %d %d", c.thirds, c.before, c.after, got, code, c.want, c.code)
		}
	}
}
