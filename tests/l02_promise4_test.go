package tests

import (
	"testing"

	"loop.example/g01301/impl"
)

func TestPromise4Densities(t *testing.T) {
	for _, c := range someCurves(400) {
		before := int64(0)
		for i, want := range densitiesBy(c) {
			x := int64(i) - impl.MaxPlace
			density, code := impl.CurveAt(c, x)
			if density != want || code != impl.OK {
				t.Fatalf("%v at %d: got %d %d, want %d", c, x, density, code, want)
			}
			if density < before {
				t.Fatalf("%v at %d: %d is less than %d", c, x, density, before)
			}
			before = density
		}
		least, greatest, code := impl.DensitiesOf(c)
		same(t, "DensitiesOf", []int64{least, greatest, code}, []int64{int64(c[0].Y), int64(c[len(c)-1].Y), impl.OK})
	}
}

func TestPromise4DensityCases(t *testing.T) {
	thirds := impl.Curve{{X: -3, Y: 1}, {X: 0, Y: 2}, {X: 7, Y: 4}, {X: 10, Y: 14}}
	steep := impl.Curve{{X: -200, Y: 0}, {X: 200, Y: 400}}
	for _, c := range []struct {
		curve   impl.Curve
		x, want int64
	}{
		{exampleCurve(), -200, 10}, {exampleCurve(), -1, 10}, {exampleCurve(), 0, 10}, {exampleCurve(), 1, 15},
		{exampleCurve(), 5, 35}, {exampleCurve(), 6, 40}, {exampleCurve(), 7, 40}, {exampleCurve(), 12, 40}, {exampleCurve(), 13, 50},
		{exampleCurve(), 17, 90}, {exampleCurve(), 18, 100}, {exampleCurve(), 19, 100}, {exampleCurve(), 200, 100},
		{thirds, -4, 1}, {thirds, -3, 1}, {thirds, -2, 1}, {thirds, -1, 1}, {thirds, 0, 2}, {thirds, 3, 2}, {thirds, 4, 3},
		{thirds, 6, 3}, {thirds, 7, 4}, {thirds, 8, 7}, {thirds, 9, 10}, {thirds, 10, 14}, {thirds, 11, 14},
		{steep, -200, 0}, {steep, -199, 1}, {steep, 0, 200}, {steep, 199, 399}, {steep, 200, 400},
		{impl.Curve{{X: 7, Y: 33}}, -200, 33}, {impl.Curve{{X: 7, Y: 33}}, 7, 33}, {impl.Curve{{X: 7, Y: 33}}, 200, 33},
		{impl.Curve{{X: 200, Y: 9}}, -200, 9}, {impl.Curve{{X: -200, Y: 9}}, 200, 9},
	} {
		density, code := impl.CurveAt(c.curve, c.x)
		if density != c.want || code != impl.OK {
			t.Errorf("%v at %d: got %d %d, want %d", c.curve, c.x, density, code, c.want)
		}
	}
}

// TestPromise4ExposuresFor tries all exposures for all densities.
func TestPromise4ExposuresFor(t *testing.T) {
	for _, c := range someCurves(200) {
		densities := densitiesBy(c)
		for y := int64(0); y <= impl.MaxDensity; y++ {
			least, leastCode := int64(0), int64(impl.ErrNotFound)
			low, high, code := int64(0), int64(0), int64(impl.ErrNotFound)
			for i, density := range densities {
				x := int64(i) - impl.MaxPlace
				if density >= y && leastCode != impl.OK {
					least, leastCode = x, impl.OK
				}
				if density == y && code != impl.OK {
					low, code = x, impl.OK
				}
				if density == y {
					high = x
				}
			}
			gotLeast, gotLeastCode := impl.ExposureFor(c, y)
			if gotLeast != least || gotLeastCode != leastCode {
				t.Fatalf("ExposureFor %v %d: got %d %d, want %d %d", c, y, gotLeast, gotLeastCode, least, leastCode)
			}
			gotLow, gotHigh, gotCode := impl.ExposuresFor(c, y)
			if gotLow != low || gotHigh != high || gotCode != code {
				t.Fatalf("ExposuresFor %v %d: got %d %d %d, want %d %d %d", c, y, gotLow, gotHigh, gotCode, low, high, code)
			}
		}
	}
}

func TestPromise4ExposureCases(t *testing.T) {
	low := impl.Curve{{X: 0, Y: 10}, {X: 6, Y: 40}}
	for _, c := range []struct {
		curve      impl.Curve
		y          int64
		least      []int64
		ends       []int64
		whyThatOne string
	}{
		{low, 0, []int64{-200, impl.OK}, []int64{0, 0, impl.ErrNotFound}, "ahead of the first point there is more"},
		{low, 10, []int64{-200, impl.OK}, []int64{-200, 0, impl.OK}, "the first density"},
		{low, 11, []int64{1, impl.OK}, []int64{0, 0, impl.ErrNotFound}, "between two densities"},
		{low, 15, []int64{1, impl.OK}, []int64{1, 1, impl.OK}, "a single exposure"},
		{low, 40, []int64{6, impl.OK}, []int64{6, 200, impl.OK}, "the last density"},
		{low, 41, []int64{0, impl.ErrNotFound}, []int64{0, 0, impl.ErrNotFound}, "just passed"},
		{low, 400, []int64{0, impl.ErrNotFound}, []int64{0, 0, impl.ErrNotFound}, "the greatest one"},
		{low, 401, []int64{0, impl.ErrRange}, []int64{0, 0, impl.ErrRange}, "too great"},
		{low, -1, []int64{0, impl.ErrRange}, []int64{0, 0, impl.ErrRange}, "too small"},
		{exampleCurve(), 40, []int64{6, impl.OK}, []int64{6, 12, impl.OK}, "a flat part"},
		{exampleCurve(), 41, []int64{13, impl.OK}, []int64{0, 0, impl.ErrNotFound}, "behind a flat part"},
		{impl.Curve{{X: 7, Y: 33}}, 33, []int64{-200, impl.OK}, []int64{-200, 200, impl.OK}, "one point"},
		{impl.Curve{{X: 7, Y: 33}}, 32, []int64{-200, impl.OK}, []int64{0, 0, impl.ErrNotFound}, "less than one point"},
		{impl.Curve{{X: 7, Y: 33}}, 34, []int64{0, impl.ErrNotFound}, []int64{0, 0, impl.ErrNotFound}, "more than one point"},
		{impl.Curve{{X: -200, Y: 0}, {X: 200, Y: 400}}, 0, []int64{-200, impl.OK}, []int64{-200, -200, impl.OK}, "the least place"},
		{impl.Curve{{X: -200, Y: 0}, {X: 200, Y: 400}}, 400, []int64{200, impl.OK}, []int64{200, 200, impl.OK}, "the greatest place"},
	} {
		x, code := impl.ExposureFor(c.curve, c.y)
		same(t, c.whyThatOne, []int64{x, code}, c.least)
		from, to, code := impl.ExposuresFor(c.curve, c.y)
		same(t, c.whyThatOne, []int64{from, to, code}, c.ends)
	}
}

// TestPromise4Steepest checks the fraction by its products, and that no part ahead of it is as steep.
func TestPromise4Steepest(t *testing.T) {
	for _, c := range someCurves(1000) {
		index, rise, run, code := impl.SteepestPart(c)
		if len(c) == 1 {
			same(t, "one point", []int64{index, rise, run, code}, []int64{0, 0, 0, impl.ErrNotFound})
			continue
		}
		if code != impl.OK || index < 0 || index > int64(len(c)-2) || run < 1 {
			t.Fatalf("%v: got %d %d %d %d", c, index, rise, run, code)
		}
		for i := 1; i < len(c); i++ {
			up, along := int64(c[i].Y)-int64(c[i-1].Y), int64(c[i].X)-int64(c[i-1].X)
			more := up*run - rise*along
			if more > 0 || int64(i-1) < index && more == 0 || int64(i-1) == index && more != 0 {
				t.Fatalf("%v: got %d %d %d, but behind %d it is %d / %d", c, index, rise, run, i-1, up, along)
			}
		}
		for divisor := int64(2); divisor <= run; divisor++ {
			if rise%divisor == 0 && run%divisor == 0 {
				t.Fatalf("%v: %d divides %d / %d", c, divisor, rise, run)
			}
		}
	}
}

func TestPromise4SteepestCases(t *testing.T) {
	for _, c := range []struct {
		curve impl.Curve
		want  []int64
	}{
		{exampleCurve(), []int64{2, 10, 1, impl.OK}},
		{exampleCurve()[:3], []int64{0, 5, 1, impl.OK}},
		{exampleCurve()[1:3], []int64{0, 0, 1, impl.OK}},
		{impl.Curve{{X: -5, Y: 20}, {X: 5, Y: 20}, {X: 6, Y: 20}}, []int64{0, 0, 1, impl.OK}},
		{impl.Curve{{X: 0, Y: 0}, {X: 4, Y: 6}, {X: 6, Y: 9}, {X: 8, Y: 12}}, []int64{0, 3, 2, impl.OK}},
		{impl.Curve{{X: 0, Y: 0}, {X: 3, Y: 1}, {X: 13, Y: 5}}, []int64{1, 2, 5, impl.OK}},
		{impl.Curve{{X: -200, Y: 0}, {X: 200, Y: 1}}, []int64{0, 1, 400, impl.OK}},
		{impl.Curve{{X: -1, Y: 0}, {X: 0, Y: 400}}, []int64{0, 400, 1, impl.OK}},
		{impl.Curve{{X: -200, Y: 0}, {X: 198, Y: 397}, {X: 200, Y: 399}}, []int64{1, 1, 1, impl.OK}},
		{impl.Curve{{X: 0, Y: 0}}, []int64{0, 0, 0, impl.ErrNotFound}},
	} {
		index, rise, run, code := impl.SteepestPart(c.curve)
		same(t, impl.CurveText(c.curve), []int64{index, rise, run, code}, c.want)
	}
}

func TestPromise4Rises(t *testing.T) {
	for _, c := range someCurves(200) {
		sum := int64(0)
		for x := int64(-impl.MaxPlace); x <= impl.MaxPlace; x++ {
			rise, code := impl.RiseAt(c, x)
			want := densityBy(c, x+1) - densityBy(c, x)
			if rise != want || rise < 0 || code != impl.OK {
				t.Fatalf("%v at %d: got %d %d, want %d", c, x, rise, code, want)
			}
			sum += rise
		}
		same(t, "all rises", sum, int64(c[len(c)-1].Y)-int64(c[0].Y))
	}
	for x, want := range map[int64]int64{-200: 0, -1: 0, 0: 5, 5: 5, 6: 0, 11: 0, 12: 10, 17: 10, 18: 0, 199: 0, 200: 0} {
		rise, code := impl.RiseAt(exampleCurve(), x)
		same(t, "RiseAt", []int64{rise, code}, []int64{want, impl.OK})
	}
	rise, code := impl.RiseAt(impl.Curve{{X: 199, Y: 5}, {X: 200, Y: 390}}, 199)
	same(t, "RiseAt 199", []int64{rise, code}, []int64{385, impl.OK})
}
