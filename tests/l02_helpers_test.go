package tests

import (
	"fmt"
	"maps"
	"math"
	"math/rand"
	"reflect"
	"slices"
	"testing"

	"loop.example/g01301/impl"
)

// exampleCurve is that of the document's example.
func exampleCurve() impl.Curve {
	return impl.Curve{{X: 0, Y: 10}, {X: 6, Y: 40}, {X: 12, Y: 40}, {X: 18, Y: 100}}
}

// climbing returns a curve with some points that is valid but for their number.
func climbing(points int) impl.Curve {
	c := impl.Curve{}
	for i := range points {
		c = append(c, impl.Point{X: int16(7*i - 30), Y: int16(i * i)})
	}
	return c
}

func validCurves() map[string]impl.Curve {
	return map[string]impl.Curve{
		"the example":        exampleCurve(),
		"one point":          {{X: 7, Y: 33}},
		"one at the least":   {{X: -200, Y: 0}},
		"one at the most":    {{X: 200, Y: 400}},
		"one left above":     {{X: -200, Y: 400}},
		"one right below":    {{X: 200, Y: 0}},
		"the limits":         {{X: -200, Y: 0}, {X: 200, Y: 400}},
		"a step":             {{X: 0, Y: 0}, {X: 1, Y: 400}},
		"a step at first":    {{X: -200, Y: 5}, {X: -199, Y: 390}},
		"a step at last":     {{X: 199, Y: 5}, {X: 200, Y: 390}},
		"flat":               {{X: -5, Y: 20}, {X: 5, Y: 20}, {X: 6, Y: 20}},
		"flat at the ends":   {{X: -50, Y: 9}, {X: -20, Y: 9}, {X: 20, Y: 77}, {X: 50, Y: 77}},
		"thirds":             {{X: -3, Y: 1}, {X: 0, Y: 2}, {X: 7, Y: 4}, {X: 10, Y: 14}},
		"equal parts":        {{X: 0, Y: 0}, {X: 4, Y: 6}, {X: 6, Y: 9}, {X: 8, Y: 12}},
		"twelve points":      climbing(12),
		"a long flat part":   {{X: -180, Y: 0}, {X: 180, Y: 3}},
		"steeper than int16": {{X: -200, Y: 0}, {X: 199, Y: 399}, {X: 200, Y: 400}},
	}
}

func invalidCurves() map[string]impl.Curve {
	return map[string]impl.Curve{
		"nil":             nil,
		"empty":           {},
		"thirteen points": climbing(13),
		"x -201":          {{X: -201, Y: 1}},
		"x 201":           {{X: 201, Y: 1}},
		"x least":         {{X: math.MinInt16, Y: 1}},
		"x greatest":      {{X: math.MaxInt16, Y: 1}},
		"y -1":            {{X: 1, Y: -1}},
		"y 401":           {{X: 1, Y: 401}},
		"y least":         {{X: 1, Y: math.MinInt16}},
		"y greatest":      {{X: 1, Y: math.MaxInt16}},
		"equal places":    {{X: 5, Y: 1}, {X: 5, Y: 2}},
		"equal points":    {{X: 5, Y: 1}, {X: 5, Y: 1}},
		"falling places":  {{X: 5, Y: 1}, {X: 4, Y: 2}},
		"falling":         {{X: 5, Y: 2}, {X: 6, Y: 1}},
		"falling at last": {{X: 5, Y: 1}, {X: 6, Y: 2}, {X: 7, Y: 1}},
		"back at last":    {{X: 5, Y: 1}, {X: 7, Y: 2}, {X: 6, Y: 3}},
		"late x too far":  {{X: 5, Y: 1}, {X: 201, Y: 2}},
		"late y too much": {{X: 5, Y: 1}, {X: 6, Y: 401}},
		"wrapping places": {{X: math.MaxInt16, Y: 1}, {X: math.MinInt16, Y: 1}},
	}
}

// someCurves are the valid curves above and many others, always the same ones in the same order.
func someCurves(others int) []impl.Curve {
	list := []impl.Curve{}
	curves := validCurves()
	for _, name := range slices.Sorted(maps.Keys(curves)) {
		list = append(list, curves[name])
	}
	numbers := rand.New(rand.NewSource(2))
	for range others {
		list = append(list, anyCurve(numbers))
	}
	return list
}

// anyCurve returns a curve with close points, or with points that are far from each other.
func anyCurve(numbers *rand.Rand) impl.Curve {
	c := impl.Curve{}
	run, rise := 1+numbers.Intn(60), 1+numbers.Intn(90)
	x, y := numbers.Intn(401)-200, numbers.Intn(80)
	for range 1 + numbers.Intn(impl.MaxPoints) {
		c = append(c, impl.Point{X: int16(x), Y: int16(y)})
		x += 1 + numbers.Intn(run)
		y += max(0, numbers.Intn(rise)-rise/4)
		if x > impl.MaxPlace || y > impl.MaxDensity {
			break
		}
	}
	return c
}

// densityBy counts up, so that it is told by the definition of the greatest integer that is at most a fraction.
func densityBy(c impl.Curve, x int64) int64 {
	if x <= int64(c[0].X) {
		return int64(c[0].Y)
	}
	for i := 1; i < len(c); i++ {
		p, q := c[i-1], c[i]
		if x >= int64(q.X) {
			continue
		}
		above, run := int64(0), int64(q.X)-int64(p.X)
		for (above+1)*run <= (int64(q.Y)-int64(p.Y))*(x-int64(p.X)) {
			above++
		}
		return int64(p.Y) + above
	}
	return int64(c[len(c)-1].Y)
}

// densitiesBy are those at all exposures, from -MaxPlace on.
func densitiesBy(c impl.Curve) []int64 {
	list := []int64{}
	for x := int64(-impl.MaxPlace); x <= impl.MaxPlace; x++ {
		list = append(list, densityBy(c, x))
	}
	return list
}

// edgePlaces are limits of the document, their neighbours, and numbers that wrap around to small ones.
func edgePlaces() []int64 {
	return []int64{
		math.MinInt64, math.MinInt64 + 1, -1 << 32, -1<<32 + 7, math.MinInt32, -1 << 16, -1<<16 + 7, math.MinInt16 - 1, math.MinInt16,
		-402, -401, -400, -399, -256, -202, -201, -200, -199, -128, -101, -100, -2, -1, 0, 1, 2, 3, 7, 99, 100, 101, 127, 128,
		198, 199, 200, 201, 202, 255, 256, 257, 399, 400, 401, 402, math.MaxInt16, math.MaxInt16 + 1, 1<<16 - 7, 1 << 16, 1<<16 + 7,
		math.MaxInt32, 1 << 32, 1<<32 + 7, math.MaxInt64 - 1, math.MaxInt64,
	}
}

// outcome is what a call returns: its results as a text, whether they are all zero values, and its code.
type outcome struct {
	results string
	zero    bool
	code    int64
}

func outcomeOf(values ...any) outcome {
	results := values[:len(values)-1]
	zero := true
	for _, result := range results {
		value := reflect.ValueOf(result)
		zero = zero && (value.IsZero() || value.Kind() == reflect.Slice && value.Len() == 0)
	}
	return outcome{results: fmt.Sprint(results...), zero: zero, code: values[len(values)-1].(int64)}
}

// curveCall calls a function with a number, which has to be low to high.
type curveCall struct {
	low, high int64
	call      func(a, b impl.Curve, n int64) outcome
}

// callsOfOne are those of functions with one curve.
func callsOfOne() map[string]curveCall {
	return map[string]curveCall{
		"CurveAt":      {-200, 200, func(a, _ impl.Curve, n int64) outcome { return outcomeOf(impl.CurveAt(a, n)) }},
		"ExposureFor":  {0, 400, func(a, _ impl.Curve, n int64) outcome { return outcomeOf(impl.ExposureFor(a, n)) }},
		"ExposuresFor": {0, 400, func(a, _ impl.Curve, n int64) outcome { return outcomeOf(impl.ExposuresFor(a, n)) }},
		"RiseAt":       {-200, 200, func(a, _ impl.Curve, n int64) outcome { return outcomeOf(impl.RiseAt(a, n)) }},
		"ShiftCurve":   {-400, 400, func(a, _ impl.Curve, n int64) outcome { return outcomeOf(impl.ShiftCurve(a, n)) }},
		"LiftCurve":    {-400, 400, func(a, _ impl.Curve, n int64) outcome { return outcomeOf(impl.LiftCurve(a, n)) }},
		"StretchCurve num": {0, 100, func(a, _ impl.Curve, n int64) outcome {
			return outcomeOf(impl.StretchCurve(a, n, 3))
		}},
		"StretchCurve den": {1, 100, func(a, _ impl.Curve, n int64) outcome {
			return outcomeOf(impl.StretchCurve(a, 3, n))
		}},
		"SimplerCurve": {0, 400, func(a, _ impl.Curve, n int64) outcome { return outcomeOf(impl.SimplerCurve(a, n)) }},
	}
}

// callsOfTwo are those of functions with two curves.
func callsOfTwo() map[string]curveCall {
	return map[string]curveCall{
		"JoinCurves":  {-200, 200, func(a, b impl.Curve, n int64) outcome { return outcomeOf(impl.JoinCurves(a, b, n)) }},
		"PrintedAt x": {-200, 200, func(a, b impl.Curve, n int64) outcome { return outcomeOf(impl.PrintedAt(a, b, n, 8)) }},
		"PrintedAt light": {-200, 200, func(a, b impl.Curve, n int64) outcome {
			return outcomeOf(impl.PrintedAt(a, b, 8, n))
		}},
		"PrintedRange low": {-200, 200, func(a, b impl.Curve, n int64) outcome {
			return outcomeOf(impl.PrintedRange(a, b, n, 200, 8))
		}},
		"PrintedRange high": {-200, 200, func(a, b impl.Curve, n int64) outcome {
			return outcomeOf(impl.PrintedRange(a, b, -200, n, 8))
		}},
		"PrintedRange light": {-200, 200, func(a, b impl.Curve, n int64) outcome {
			return outcomeOf(impl.PrintedRange(a, b, -8, 8, n))
		}},
		"LightFor x": {-200, 200, func(a, b impl.Curve, n int64) outcome { return outcomeOf(impl.LightFor(a, b, n, 8)) }},
		"LightFor y": {0, 400, func(a, b impl.Curve, n int64) outcome { return outcomeOf(impl.LightFor(a, b, 8, n)) }},
	}
}

func wantOutcome(t *testing.T, name string, got outcome, code int64) {
	t.Helper()
	if got.code != code || !got.zero {
		t.Errorf("%s: got %s with the code %d, want zero values with %d", name, got.results, got.code, code)
	}
}
