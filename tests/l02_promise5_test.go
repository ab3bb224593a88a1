package tests

import (
	"math/rand"
	"slices"
	"testing"

	"loop.example/g01301/impl"
)

// changedBy changes the points in int64, and tells whether they still make a curve.
func changedBy(c impl.Curve, change func(x, y int64) (int64, int64)) (impl.Curve, bool) {
	made := impl.Curve{}
	for _, p := range c {
		x, y := change(int64(p.X), int64(p.Y))
		if x < -200 || x > 200 || y < 0 || y > 400 {
			return nil, false
		}
		made = append(made, impl.Point{X: int16(x), Y: int16(y)})
	}
	return made, true
}

func wantCurve(t *testing.T, what string, c impl.Curve, code int64, want impl.Curve, wantCode int64) {
	t.Helper()
	if !slices.Equal(c, want) || code != wantCode {
		t.Errorf("%s: got %v %d, want %v %d", what, c, code, want, wantCode)
	}
}

// TestPromise5ThereAndBack moves curves by all there is.
func TestPromise5ThereAndBack(t *testing.T) {
	for _, c := range someCurves(60) {
		for by := int64(-400); by <= 400; by++ {
			want, fits := changedBy(c, func(x, y int64) (int64, int64) { return x + by, y })
			moved, code := impl.ShiftCurve(c, by)
			checkMoved(t, "ShiftCurve", c, moved, code, want, fits, func() (impl.Curve, int64) { return impl.ShiftCurve(moved, -by) })
			want, fits = changedBy(c, func(x, y int64) (int64, int64) { return x, y + by })
			moved, code = impl.LiftCurve(c, by)
			checkMoved(t, "LiftCurve", c, moved, code, want, fits, func() (impl.Curve, int64) { return impl.LiftCurve(moved, -by) })
		}
	}
}

func checkMoved(t *testing.T, what string, c, moved impl.Curve, code int64, want impl.Curve, fits bool, moveBack func() (impl.Curve, int64)) {
	t.Helper()
	if !fits {
		wantCurve(t, what, moved, code, nil, impl.ErrState)
		return
	}
	wantCurve(t, what, moved, code, want, impl.OK)
	back, code := moveBack()
	wantCurve(t, what+" back", back, code, c, impl.OK)
}

func TestPromise5MoveCases(t *testing.T) {
	c := impl.Curve{{X: -100, Y: 50}, {X: 150, Y: 350}}
	for _, m := range []struct {
		by          int64
		shifted     impl.Curve
		shiftedCode int64
		lifted      impl.Curve
		liftedCode  int64
	}{
		{0, c, impl.OK, c, impl.OK},
		{50, impl.Curve{{X: -50, Y: 50}, {X: 200, Y: 350}}, impl.OK, impl.Curve{{X: -100, Y: 100}, {X: 150, Y: 400}}, impl.OK},
		{51, nil, impl.ErrState, nil, impl.ErrState},
		{-50, impl.Curve{{X: -150, Y: 50}, {X: 100, Y: 350}}, impl.OK, impl.Curve{{X: -100, Y: 0}, {X: 150, Y: 300}}, impl.OK},
		{-51, impl.Curve{{X: -151, Y: 50}, {X: 99, Y: 350}}, impl.OK, nil, impl.ErrState},
		{-100, impl.Curve{{X: -200, Y: 50}, {X: 50, Y: 350}}, impl.OK, nil, impl.ErrState},
		{-101, nil, impl.ErrState, nil, impl.ErrState},
		{400, nil, impl.ErrState, nil, impl.ErrState},
		{-400, nil, impl.ErrState, nil, impl.ErrState},
		{401, nil, impl.ErrRange, nil, impl.ErrRange},
		{-401, nil, impl.ErrRange, nil, impl.ErrRange},
		{65536, nil, impl.ErrRange, nil, impl.ErrRange},
	} {
		moved, code := impl.ShiftCurve(c, m.by)
		wantCurve(t, "ShiftCurve", moved, code, m.shifted, m.shiftedCode)
		moved, code = impl.LiftCurve(c, m.by)
		wantCurve(t, "LiftCurve", moved, code, m.lifted, m.liftedCode)
	}
	moved, code := impl.ShiftCurve(impl.Curve{{X: -200, Y: 3}}, 400)
	wantCurve(t, "from end to end", moved, code, impl.Curve{{X: 200, Y: 3}}, impl.OK)
	moved, code = impl.LiftCurve(impl.Curve{{X: 5, Y: 400}}, -400)
	wantCurve(t, "from top to bottom", moved, code, impl.Curve{{X: 5, Y: 0}}, impl.OK)
}

func TestPromise5Stretched(t *testing.T) {
	for _, c := range someCurves(10) {
		for num := int64(0); num <= 100; num++ {
			for den := int64(1); den <= 100; den++ {
				want, fits := changedBy(c, func(x, y int64) (int64, int64) { return x, y * num / den })
				wantCode := int64(impl.OK)
				if !fits {
					wantCode = impl.ErrState
				}
				made, code := impl.StretchCurve(c, num, den)
				wantCurve(t, "StretchCurve", made, code, want, wantCode)
			}
		}
	}
}

func TestPromise5StretchCases(t *testing.T) {
	steep := impl.Curve{{X: 0, Y: 7}, {X: 9, Y: 400}}
	for _, c := range []struct {
		curve    impl.Curve
		num, den int64
		want     impl.Curve
		code     int64
	}{
		{steep, 1, 1, steep, impl.OK},
		{steep, 100, 100, steep, impl.OK},
		{steep, 0, 1, impl.Curve{{X: 0, Y: 0}, {X: 9, Y: 0}}, impl.OK},
		{steep, 1, 100, impl.Curve{{X: 0, Y: 0}, {X: 9, Y: 4}}, impl.OK},
		{steep, 99, 100, impl.Curve{{X: 0, Y: 6}, {X: 9, Y: 396}}, impl.OK},
		{steep, 100, 99, nil, impl.ErrState},
		{steep, 2, 1, nil, impl.ErrState},
		{steep, 100, 1, nil, impl.ErrState}, // 40000, which is more than an int16 has
		{impl.Curve{{X: 3, Y: 4}}, 100, 1, impl.Curve{{X: 3, Y: 400}}, impl.OK},
		{impl.Curve{{X: 3, Y: 5}}, 100, 1, nil, impl.ErrState},
		{impl.Curve{{X: 3, Y: 20}}, 81, 4, nil, impl.ErrState},
		{impl.Curve{{X: 3, Y: 19}}, 59, 4, impl.Curve{{X: 3, Y: 280}}, impl.OK},
		{impl.Curve{{X: 3, Y: 7}}, 98, 3, impl.Curve{{X: 3, Y: 228}}, impl.OK},
		{steep, -1, 1, nil, impl.ErrRange},
		{steep, 101, 1, nil, impl.ErrRange},
		{steep, 1, 0, nil, impl.ErrRange},
		{steep, 0, 0, nil, impl.ErrRange},
		{steep, 1, -1, nil, impl.ErrRange},
		{steep, 1, 101, nil, impl.ErrRange},
		{steep, 101, 101, nil, impl.ErrRange},
		{steep, 100, 0, nil, impl.ErrRange},
	} {
		made, code := impl.StretchCurve(c.curve, c.num, c.den)
		wantCurve(t, impl.CurveText(c.curve), made, code, c.want, c.code)
	}
}

// TestPromise5Joined sorts the points of both curves out one by one.
func TestPromise5Joined(t *testing.T) {
	curves := someCurves(30)
	for _, a := range curves {
		for _, b := range curves {
			for at := int64(-200); at <= 200; at += 10 {
				want, wantCode := impl.Curve{}, int64(impl.OK)
				for _, p := range a {
					if int64(p.X) < at {
						want = append(want, p)
					}
				}
				last := len(want)
				for _, p := range b {
					if int64(p.X) >= at {
						want = append(want, p)
					}
				}
				if len(want) == 0 || last > 0 && last < len(want) && want[last].Y < want[last-1].Y {
					want, wantCode = nil, impl.ErrState
				} else if len(want) > 12 {
					want, wantCode = nil, impl.ErrLimit
				}
				made, code := impl.JoinCurves(a, b, at)
				wantCurve(t, "JoinCurves", made, code, want, wantCode)
			}
		}
	}
}

func TestPromise5JoinCases(t *testing.T) {
	twelve := climbing(12) // from -30 to 47, and from 0 to 121
	rest, _ := impl.ShiftCurve(twelve, 77)
	rest, _ = impl.LiftCurve(rest, 121)
	for _, c := range []struct {
		what string
		a, b impl.Curve
		at   int64
		want impl.Curve
		code int64
	}{
		{"the end of a", exampleCurve(), impl.Curve{{X: 20, Y: 120}}, 10, impl.Curve{{X: 0, Y: 10}, {X: 6, Y: 40}, {X: 20, Y: 120}}, impl.OK},
		{"a alone", exampleCurve(), impl.Curve{{X: 18, Y: 120}}, 19, exampleCurve(), impl.OK},
		{"b alone", exampleCurve(), exampleCurve(), 0, exampleCurve(), impl.OK},
		{"at a point", exampleCurve(), exampleCurve(), 12, exampleCurve(), impl.OK},
		{"b at the point", impl.Curve{{X: 5, Y: 1}}, impl.Curve{{X: 5, Y: 9}}, 5, impl.Curve{{X: 5, Y: 9}}, impl.OK},
		{"a ahead of it", impl.Curve{{X: 4, Y: 1}}, impl.Curve{{X: 4, Y: 9}}, 5, impl.Curve{{X: 4, Y: 1}}, impl.OK},
		{"equal densities", impl.Curve{{X: 4, Y: 9}}, impl.Curve{{X: 5, Y: 9}}, 5, impl.Curve{{X: 4, Y: 9}, {X: 5, Y: 9}}, impl.OK},
		{"less", impl.Curve{{X: 4, Y: 9}}, impl.Curve{{X: 5, Y: 8}}, 5, nil, impl.ErrState},
		{"none", impl.Curve{{X: 5, Y: 1}}, impl.Curve{{X: 4, Y: 9}}, 5, nil, impl.ErrState},
		{"at the least", impl.Curve{{X: -200, Y: 1}}, impl.Curve{{X: -200, Y: 2}}, -200, impl.Curve{{X: -200, Y: 2}}, impl.OK},
		{"at the greatest", impl.Curve{{X: 199, Y: 1}}, impl.Curve{{X: 200, Y: 2}}, 200, impl.Curve{{X: 199, Y: 1}, {X: 200, Y: 2}}, impl.OK},
		{"twelve", twelve, impl.Curve{{X: 47, Y: 300}}, 47, append(slices.Clone(twelve[:11]), impl.Point{X: 47, Y: 300}), impl.OK},
		{"thirteen", twelve, impl.Curve{{X: 48, Y: 121}}, 48, nil, impl.ErrLimit},
		{"twenty-three", twelve, rest, 47, nil, impl.ErrLimit},
		{"thirteen, but less", twelve, impl.Curve{{X: 48, Y: 120}}, 48, nil, impl.ErrState},
		{"fourteen, but less", twelve, impl.Curve{{X: 48, Y: 99}, {X: 50, Y: 130}}, 48, nil, impl.ErrState},
		{"thirteen, and out of range", twelve, impl.Curve{{X: 48, Y: 120}}, 201, nil, impl.ErrRange},
		{"out of range", exampleCurve(), exampleCurve(), -201, nil, impl.ErrRange},
	} {
		made, code := impl.JoinCurves(c.a, c.b, c.at)
		wantCurve(t, c.what, made, code, c.want, c.code)
	}
}

// throughBy makes the curve place by place.
func throughBy(list []impl.Point) (impl.Curve, int64) {
	made := impl.Curve{}
	before := int64(0)
	for x := int16(-200); x <= 200; x++ {
		sum, count := int64(0), int64(0)
		for _, p := range list {
			if p.X == x {
				sum, count = sum+int64(p.Y), count+1
			}
		}
		if count > 0 {
			before = max(before, sum/count)
			made = append(made, impl.Point{X: x, Y: int16(before)})
		}
	}
	if len(made) > 12 {
		return nil, impl.ErrLimit
	}
	return made, impl.OK
}

func TestPromise5Through(t *testing.T) {
	numbers := rand.New(rand.NewSource(5))
	for range 2000 {
		list := []impl.Point{}
		places := 1 + numbers.Intn(15)
		for range 1 + numbers.Intn(100) {
			list = append(list, impl.Point{X: int16(11*numbers.Intn(places) - 100), Y: int16(numbers.Intn(401))})
		}
		want, wantCode := throughBy(list)
		made, code := impl.CurveThrough(list)
		wantCurve(t, "CurveThrough", made, code, want, wantCode)
		same(t, "CurveThrough makes valid curves", impl.ValidCurve(made), code == impl.OK)
		slices.Reverse(list)
		made, code = impl.CurveThrough(list)
		wantCurve(t, "CurveThrough in another order", made, code, want, wantCode)
	}
	for _, c := range someCurves(200) {
		made, code := impl.CurveThrough(c)
		wantCurve(t, "CurveThrough its own points", made, code, c, impl.OK)
	}
}

func TestPromise5ThroughCases(t *testing.T) {
	hundred := slices.Repeat([]impl.Point{{X: 5, Y: 400}}, 100)
	for _, c := range []struct {
		what string
		list []impl.Point
		want impl.Curve
		code int64
	}{
		{"one", []impl.Point{{X: 5, Y: 30}}, impl.Curve{{X: 5, Y: 30}}, impl.OK},
		{"the test's", []impl.Point{{X: 5, Y: 30}, {X: 1, Y: 40}, {X: 5, Y: 35}, {X: 9, Y: 50}}, impl.Curve{{X: 1, Y: 40}, {X: 5, Y: 40}, {X: 9, Y: 50}}, impl.OK},
		{"rounded down", []impl.Point{{X: 5, Y: 30}, {X: 5, Y: 31}}, impl.Curve{{X: 5, Y: 30}}, impl.OK},
		{"all count", []impl.Point{{X: 5, Y: 10}, {X: 5, Y: 10}, {X: 5, Y: 40}}, impl.Curve{{X: 5, Y: 20}}, impl.OK},
		{"means come first", []impl.Point{{X: 1, Y: 50}, {X: 5, Y: 0}, {X: 5, Y: 90}}, impl.Curve{{X: 1, Y: 50}, {X: 5, Y: 50}}, impl.OK},
		{"falling", []impl.Point{{X: 3, Y: 1}, {X: 2, Y: 2}, {X: 1, Y: 3}}, impl.Curve{{X: 1, Y: 3}, {X: 2, Y: 3}, {X: 3, Y: 3}}, impl.OK},
		{"up again", []impl.Point{{X: 1, Y: 3}, {X: 2, Y: 1}, {X: 3, Y: 2}, {X: 4, Y: 4}}, impl.Curve{{X: 1, Y: 3}, {X: 2, Y: 3}, {X: 3, Y: 3}, {X: 4, Y: 4}}, impl.OK},
		{"ends", []impl.Point{{X: 200, Y: 400}, {X: -200, Y: 0}}, impl.Curve{{X: -200, Y: 0}, {X: 200, Y: 400}}, impl.OK},
		{"a hundred", hundred, impl.Curve{{X: 5, Y: 400}}, impl.OK},
		{"a hundred and one", append(slices.Clone(hundred), impl.Point{X: 5, Y: 400}), nil, impl.ErrRange},
		{"twelve places", climbing(12), climbing(12), impl.OK},
		{"twelve places and thirteen readings", append(climbing(12), impl.Point{X: 47, Y: 121}), climbing(12), impl.OK},
		{"thirteen places", climbing(13), nil, impl.ErrLimit},
		{"thirteen places, one wrong", append(climbing(13), impl.Point{X: 201, Y: 0}), nil, impl.ErrRange},
		{"density -1", []impl.Point{{X: 5, Y: 30}, {X: 5, Y: -1}}, nil, impl.ErrRange},
		{"density 401", []impl.Point{{X: 5, Y: 401}, {X: 5, Y: 0}}, nil, impl.ErrRange},
		{"place -201", []impl.Point{{X: -201, Y: 30}}, nil, impl.ErrRange},
		{"none", nil, nil, impl.ErrRange},
	} {
		made, code := impl.CurveThrough(c.list)
		wantCurve(t, c.what, made, code, c.want, c.code)
	}
}

func TestPromise5Gaps(t *testing.T) {
	curves := someCurves(40)
	for _, a := range curves {
		for _, b := range curves {
			first, second := densitiesBy(a), densitiesBy(b)
			at, by := int64(-200), int64(0)
			for i := range first {
				if more := second[i] - first[i]; more*more > by*by {
					at, by = int64(i)-200, more
				}
			}
			gotAt, gotBy, code := impl.GreatestGap(a, b)
			if gotAt != at || gotBy != by || code != impl.OK {
				t.Fatalf("%v %v: got %d %d %d, want %d %d", a, b, gotAt, gotBy, code, at, by)
			}
		}
	}
}

func TestPromise5GapCases(t *testing.T) {
	flat := impl.Curve{{X: 0, Y: 50}}
	for _, c := range []struct {
		a, b impl.Curve
		want []int64
	}{
		{flat, flat, []int64{-200, 0, impl.OK}},
		{flat, impl.Curve{{X: 9, Y: 51}}, []int64{-200, 1, impl.OK}},
		{impl.Curve{{X: 9, Y: 51}}, flat, []int64{-200, -1, impl.OK}},
		{flat, impl.Curve{{X: 0, Y: 40}, {X: 10, Y: 60}}, []int64{-200, -10, impl.OK}},
		{flat, impl.Curve{{X: 0, Y: 40}, {X: 10, Y: 61}}, []int64{10, 11, impl.OK}},
		{impl.Curve{{X: 0, Y: 40}, {X: 10, Y: 61}}, flat, []int64{10, -11, impl.OK}},
		{flat, impl.Curve{{X: 0, Y: 50}, {X: 200, Y: 52}}, []int64{200, 2, impl.OK}},
		{flat, impl.Curve{{X: -200, Y: 47}, {X: -199, Y: 52}}, []int64{-200, -3, impl.OK}},
		{impl.Curve{{X: 0, Y: 0}, {X: 4, Y: 40}}, impl.Curve{{X: 0, Y: 0}, {X: 2, Y: 0}, {X: 4, Y: 40}}, []int64{2, -20, impl.OK}},
		{impl.Curve{{X: 0, Y: 0}}, impl.Curve{{X: 0, Y: 400}}, []int64{-200, 400, impl.OK}},
	} {
		at, by, code := impl.GreatestGap(c.a, c.b)
		same(t, impl.CurveText(c.a)+" and "+impl.CurveText(c.b), []int64{at, by, code}, c.want)
	}
}

func isWithin(a, b []int64, within int64) bool {
	for i := range a {
		if a[i]-b[i] > within || b[i]-a[i] > within {
			return false
		}
	}
	return true
}

// simplerBy begins at the first point again whenever one has been left away.
func simplerBy(c impl.Curve, within int64) impl.Curve {
	given := densitiesBy(c)
	left := slices.Clone(c)
	for i := 0; i < len(left) && len(left) > 1; {
		less := slices.Delete(slices.Clone(left), i, i+1)
		if isWithin(given, densitiesBy(less), within) {
			left, i = less, 0
		} else {
			i++
		}
	}
	return left
}

func TestPromise5Simpler(t *testing.T) {
	for _, c := range someCurves(60) {
		for _, within := range []int64{0, 1, 2, 3, 5, 8, 13, 15, 21, 40, 90, 399, 400} {
			want := simplerBy(c, within)
			simpler, gone, code := impl.SimplerCurve(c, within)
			if !slices.Equal(simpler, want) || gone != int64(len(c)-len(want)) || code != impl.OK {
				t.Fatalf("%v within %d: got %v %d %d, want %v", c, within, simpler, gone, code, want)
			}
			if !impl.ValidCurve(simpler) || !isWithin(densitiesBy(c), densitiesBy(simpler), within) {
				t.Fatalf("%v within %d: %v is not", c, within, simpler)
			}
		}
	}
}

func TestPromise5SimplerCases(t *testing.T) {
	steps := impl.Curve{{X: 0, Y: 0}, {X: 1, Y: 5}, {X: 2, Y: 10}}
	atFirst := impl.Curve{{X: -200, Y: 0}, {X: -199, Y: 9}}
	atLast := impl.Curve{{X: 199, Y: 9}, {X: 200, Y: 18}}
	for _, c := range []struct {
		what   string
		curve  impl.Curve
		within int64
		want   impl.Curve
		gone   int64
		code   int64
	}{
		{"just within", exampleCurve(), 15, impl.Curve{{X: 0, Y: 10}, {X: 12, Y: 40}, {X: 18, Y: 100}}, 1, impl.OK},
		{"just not within", exampleCurve(), 14, exampleCurve(), 0, impl.OK},
		{"the first point too", exampleCurve(), 30, impl.Curve{{X: 12, Y: 40}, {X: 18, Y: 100}}, 2, impl.OK},
		{"ahead of the first point", exampleCurve(), 29, impl.Curve{{X: 0, Y: 10}, {X: 12, Y: 40}, {X: 18, Y: 100}}, 1, impl.OK},
		{"all but one", exampleCurve(), 90, impl.Curve{{X: 18, Y: 100}}, 3, impl.OK},
		{"all but another one", exampleCurve(), 89, impl.Curve{{X: 12, Y: 40}}, 3, impl.OK},
		{"one point", impl.Curve{{X: 7, Y: 33}}, 400, impl.Curve{{X: 7, Y: 33}}, 0, impl.OK},
		{"flat", impl.Curve{{X: -5, Y: 20}, {X: 5, Y: 20}, {X: 6, Y: 20}}, 0, impl.Curve{{X: 6, Y: 20}}, 2, impl.OK},
		{"a straight line", impl.Curve{{X: 0, Y: 0}, {X: 2, Y: 4}, {X: 4, Y: 8}, {X: 9, Y: 18}}, 0, impl.Curve{{X: 0, Y: 0}, {X: 9, Y: 18}}, 2, impl.OK},
		{"against the one given", steps, 5, impl.Curve{{X: 1, Y: 5}}, 2, impl.OK},
		{"the least place", atFirst, 8, atFirst, 0, impl.OK},
		{"the least place just within", atFirst, 9, impl.Curve{{X: -199, Y: 9}}, 1, impl.OK},
		{"the greatest place", atLast, 8, atLast, 0, impl.OK},
		{"the greatest place just within", atLast, 9, impl.Curve{{X: 200, Y: 18}}, 1, impl.OK},
		{"a limit", exampleCurve(), 400, impl.Curve{{X: 18, Y: 100}}, 3, impl.OK},
		{"too great", exampleCurve(), 401, nil, 0, impl.ErrRange},
		{"too small", exampleCurve(), -1, nil, 0, impl.ErrRange},
	} {
		simpler, gone, code := impl.SimplerCurve(c.curve, c.within)
		wantCurve(t, c.what, simpler, code, c.want, c.code)
		same(t, c.what, gone, c.gone)
	}
}
