package tests

import (
	"maps"
	"math"
	"slices"
	"strings"
	"testing"

	"loop.example/g01301/impl"
)

// TestPromise1CurveRanges has the order of the checks too: with some of these curves the numbers in range are not OK.
func TestPromise1CurveRanges(t *testing.T) {
	calls := callsOfOne()
	maps.Copy(calls, callsOfTwo())
	for name, c := range calls {
		for _, n := range edgePlaces() {
			for which, curve := range validCurves() {
				got := c.call(curve, exampleCurve(), n)
				again := c.call(curve, exampleCurve(), n)
				same(t, name+" again", again, got)
				if n < c.low || n > c.high {
					wantOutcome(t, name+" of "+which, got, impl.ErrRange)
				} else if got.code == impl.ErrRange || got.code == impl.ErrInvalid || got.code != impl.OK && !got.zero {
					t.Errorf("%s of %s with %d: got %s %d", name, which, n, got.results, got.code)
				}
			}
		}
	}
}

// TestPromise1InvalidCurves gives numbers that are out of range as well, because ErrInvalid comes first.
func TestPromise1InvalidCurves(t *testing.T) {
	for which, bad := range invalidCurves() {
		same(t, which, impl.ValidCurve(bad), false)
		same(t, which, impl.CurveText(bad), "")
		wantOutcome(t, which, outcomeOf(impl.DensitiesOf(bad)), impl.ErrInvalid)
		wantOutcome(t, which, outcomeOf(impl.SteepestPart(bad)), impl.ErrInvalid)
		wantOutcome(t, which, outcomeOf(impl.StretchCurve(bad, -1, 0)), impl.ErrInvalid)
		for _, other := range []impl.Curve{exampleCurve(), bad} {
			wantOutcome(t, which, outcomeOf(impl.GreatestGap(bad, other)), impl.ErrInvalid)
			wantOutcome(t, which, outcomeOf(impl.GreatestGap(other, bad)), impl.ErrInvalid)
			wantOutcome(t, which, outcomeOf(impl.PrintedRange(bad, other, 201, -201, 500)), impl.ErrInvalid)
			wantOutcome(t, which, outcomeOf(impl.PrintedRange(other, bad, 2, 1, 8)), impl.ErrInvalid)
		}
		for _, n := range []int64{0, 5, 200, -401, 401, math.MinInt64, math.MaxInt64} {
			for name, c := range callsOfOne() {
				wantOutcome(t, name+" of "+which, c.call(bad, nil, n), impl.ErrInvalid)
			}
			for name, c := range callsOfTwo() {
				wantOutcome(t, name+" of "+which, c.call(bad, exampleCurve(), n), impl.ErrInvalid)
				wantOutcome(t, name+" with "+which, c.call(exampleCurve(), bad, n), impl.ErrInvalid)
			}
		}
	}
	for which, c := range validCurves() {
		same(t, which, impl.ValidCurve(c), true)
	}
}

// TestPromise1AllInt16 holds validity against its definition for each number that a field can have.
func TestPromise1AllInt16(t *testing.T) {
	for n := int64(math.MinInt16); n <= math.MaxInt16; n++ {
		isPlace, isDensity := n >= -200 && n <= 200, n >= 0 && n <= 400
		for _, c := range []struct {
			curve impl.Curve
			want  bool
		}{
			{impl.Curve{{X: int16(n), Y: 400}}, isPlace},
			{impl.Curve{{X: -200, Y: int16(n)}}, isDensity},
			{impl.Curve{{X: 50, Y: 3}, {X: int16(n), Y: 3}}, isPlace && n > 50},
			{impl.Curve{{X: int16(n), Y: 3}, {X: 50, Y: 3}}, isPlace && n < 50},
			{impl.Curve{{X: 50, Y: 60}, {X: 51, Y: int16(n)}}, isDensity && n >= 60},
			{impl.Curve{{X: 50, Y: int16(n)}, {X: 51, Y: 60}}, isDensity && n <= 60},
		} {
			if impl.ValidCurve(c.curve) != c.want {
				t.Errorf("%v: want %v", c.curve, c.want)
			}
		}
	}
}

func TestPromise1CurveLengths(t *testing.T) {
	for points := range 20 {
		same(t, "climbing", impl.ValidCurve(climbing(points)), points >= 1 && points <= 12)
	}
}

// TestPromise1CurvesHuge gives lists and texts with a million elements.
func TestPromise1CurvesHuge(t *testing.T) {
	const million = 1000000
	huge := make(impl.Curve, million)
	same(t, "ValidCurve", impl.ValidCurve(huge), false)
	same(t, "CurveText", impl.CurveText(huge), "")
	same(t, "SameCurve", impl.SameCurve(huge, slices.Clone(huge)), true)
	same(t, "SameCurve", impl.SameCurve(huge, huge[1:]), false)
	wantOutcome(t, "CurveThrough", outcomeOf(impl.CurveThrough(huge)), impl.ErrRange)
	for name, c := range callsOfOne() {
		wantOutcome(t, name, c.call(huge, nil, 5), impl.ErrInvalid)
	}
	for name, c := range callsOfTwo() {
		wantOutcome(t, name, c.call(huge, huge, 5), impl.ErrInvalid)
	}
	for _, part := range []string{" ", ":", "0", "9", "-", "0:0 ", "0:", "\x00", "\xff", "0:10 6:40 "} {
		text := strings.Repeat(part, million/len(part))
		wantOutcome(t, "ReadCurve", outcomeOf(impl.ReadCurve(text)), impl.ErrSyntax)
		wantOutcome(t, "ReadCurve", outcomeOf(impl.ReadCurve("0:10 "+text)), impl.ErrSyntax)
		wantOutcome(t, "ReadCurve", outcomeOf(impl.ReadCurve("0:10"+text)), impl.ErrSyntax)
	}
}

func TestPromise1CurvesNilAndEmpty(t *testing.T) {
	lists := []impl.Curve{nil, {}, exampleCurve()[:0]}
	for _, a := range lists {
		for _, b := range lists {
			same(t, "SameCurve", impl.SameCurve(a, b), true)
		}
		same(t, "SameCurve", impl.SameCurve(a, exampleCurve()), false)
		same(t, "SameCurve", impl.SameCurve(exampleCurve(), a), false)
		same(t, "ValidCurve", impl.ValidCurve(a), false)
		wantOutcome(t, "CurveThrough", outcomeOf(impl.CurveThrough(a)), impl.ErrRange)
	}
}

func TestPromise1SameCurve(t *testing.T) {
	all := slices.AppendSeq(someCurves(40), maps.Values(invalidCurves()))
	for _, a := range all {
		same(t, "SameCurve", impl.SameCurve(a, slices.Clone(a)), true)
		for _, b := range all {
			same(t, "SameCurve", impl.SameCurve(a, b), slices.Equal(a, b))
		}
		for i := range a {
			other := slices.Clone(a)
			other[i].X++
			same(t, "SameCurve with another x", impl.SameCurve(a, other), false)
			other = slices.Clone(a)
			other[i].Y--
			same(t, "SameCurve with another y", impl.SameCurve(a, other), false)
			same(t, "SameCurve of the beginning", impl.SameCurve(a, a[:i]), false)
			same(t, "SameCurve with the beginning", impl.SameCurve(a[:i], a), false)
		}
	}
}

// marked returns a curve with unused capacity, which has marks that have to stay, and all of its memory.
func marked(c impl.Curve) (impl.Curve, impl.Curve) {
	whole := append(slices.Clone(c), slices.Repeat(impl.Curve{{X: 77, Y: -77}}, 20)...)
	return whole[:len(c)], whole
}

// TestPromise1CurveArguments: all arguments stay as they are, behind their ends too.
func TestPromise1CurveArguments(t *testing.T) {
	calls := callsOfOne()
	maps.Copy(calls, callsOfTwo())
	calls["DensitiesOf"] = curveCall{0, 0, func(a, b impl.Curve, n int64) outcome { return outcomeOf(impl.DensitiesOf(a)) }}
	calls["SteepestPart"] = curveCall{0, 0, func(a, b impl.Curve, n int64) outcome { return outcomeOf(impl.SteepestPart(a)) }}
	calls["GreatestGap"] = curveCall{0, 0, func(a, b impl.Curve, n int64) outcome { return outcomeOf(impl.GreatestGap(a, b)) }}
	calls["CurveThrough"] = curveCall{0, 0, func(a, b impl.Curve, n int64) outcome { return outcomeOf(impl.CurveThrough(a)) }}
	lists := slices.AppendSeq(slices.Collect(maps.Values(validCurves())), maps.Values(invalidCurves()))
	lists = append(lists, impl.Curve{{X: 9, Y: 5}, {X: -9, Y: 50}, {X: 9, Y: 6}, {X: 0, Y: 0}})
	for name, c := range calls {
		for _, list := range lists {
			for _, n := range []int64{-300, -200, -7, 0, 1, 7, 15, 60, 200, 400} {
				a, wholeA := marked(list)
				b, wholeB := marked(exampleCurve())
				keptA, keptB := slices.Clone(wholeA), slices.Clone(wholeB)
				c.call(a, b, n)
				c.call(b, a, n)
				same(t, name, wholeA, keptA)
				same(t, name, wholeB, keptB)
			}
		}
	}
}

// TestPromise1CurveResults changes each curve that is returned, and all behind it: no argument changes with it.
func TestPromise1CurveResults(t *testing.T) {
	for which, c := range validCurves() {
		a, whole := marked(c)
		kept := slices.Clone(whole)
		end, start := int64(a[len(a)-1].X), int64(a[0].X)
		far := impl.Curve{{X: 200, Y: 400}}
		near := impl.Curve{{X: -200, Y: 0}}
		for name, call := range map[string]func() (impl.Curve, int64){
			"ShiftCurve":        func() (impl.Curve, int64) { return impl.ShiftCurve(a, 0) },
			"LiftCurve":         func() (impl.Curve, int64) { return impl.LiftCurve(a, 0) },
			"StretchCurve":      func() (impl.Curve, int64) { return impl.StretchCurve(a, 1, 1) },
			"JoinCurves first":  func() (impl.Curve, int64) { return impl.JoinCurves(a, near, min(end+1, 200)) },
			"JoinCurves second": func() (impl.Curve, int64) { return impl.JoinCurves(far, a, start) },
			"JoinCurves both":   func() (impl.Curve, int64) { return impl.JoinCurves(a, a, (start+end)/2) },
			"CurveThrough":      func() (impl.Curve, int64) { return impl.CurveThrough(a) },
			"SimplerCurve":      func() (impl.Curve, int64) { return firstAndCode(impl.SimplerCurve(a, 0)) },
			"SimplerCurve less": func() (impl.Curve, int64) { return firstAndCode(impl.SimplerCurve(a, 20)) },
			"SimplerCurve one":  func() (impl.Curve, int64) { return firstAndCode(impl.SimplerCurve(a, 400)) },
			"ReadCurve":         func() (impl.Curve, int64) { return impl.ReadCurve(impl.CurveText(a)) },
		} {
			checkFresh(t, name+" of "+which, func() ([]impl.Point, int64) {
				made, code := call()
				return made, code
			}, impl.Point{X: -3, Y: -3})
			same(t, name+" of "+which, whole, kept)
		}
	}
}

func firstAndCode(c impl.Curve, _, code int64) (impl.Curve, int64) {
	return c, code
}

// TestPromise1Readings checks the readings of CurveThrough at the edges of int16.
func TestPromise1Readings(t *testing.T) {
	for n := int64(math.MinInt16); n <= math.MaxInt16; n++ {
		for _, c := range []struct {
			reading impl.Point
			fits    bool
		}{
			{impl.Point{X: int16(n), Y: 400}, n >= -200 && n <= 200},
			{impl.Point{X: 200, Y: int16(n)}, n >= 0 && n <= 400},
		} {
			want := int64(impl.ErrRange)
			if c.fits {
				want = impl.OK
			}
			_, code := impl.CurveThrough([]impl.Point{c.reading})
			_, codeAtLast := impl.CurveThrough([]impl.Point{{X: 8, Y: 4}, {X: 2, Y: 40}, c.reading})
			if code != want || codeAtLast != want {
				t.Errorf("%v: got %d and %d, want %d", c.reading, code, codeAtLast, want)
			}
		}
	}
}

func TestPromise1CurveTexts(t *testing.T) {
	for _, c := range someCurves(2000) {
		text := impl.CurveText(c)
		read, code := impl.ReadCurve(text)
		if !slices.Equal(read, c) || code != impl.OK {
			t.Fatalf("%q: got %v %d, want %v", text, read, code, c)
		}
	}
	for text, want := range map[string]impl.Curve{
		"0:0": {{X: 0, Y: 0}}, "-5:0": {{X: -5, Y: 0}}, "-200:0 200:400": {{X: -200, Y: 0}, {X: 200, Y: 400}},
		"-1:7 0:7 1:10": {{X: -1, Y: 7}, {X: 0, Y: 7}, {X: 1, Y: 10}}, "0:10 6:40 12:40 18:100": exampleCurve(),
		"-30:0 -23:1 -16:4 -9:9 -2:16 5:25 12:36 19:49 26:64 33:81 40:100 47:121": climbing(12),
	} {
		same(t, "CurveText", impl.CurveText(want), text)
		read, code := impl.ReadCurve(text)
		same(t, text, read, want)
		same(t, text, code, int64(impl.OK))
	}
}

func TestPromise1CurveTextsNearlyRight(t *testing.T) {
	for _, text := range []string{
		"", " ", ":", "0", "0:", ":0", "0:0 ", " 0:0", "0:0\n", "0:0  1:1", "0:0\t1:1", "0:0,1:1", "0:0 1", "0:0 1:", "0:0 :1", "0:0:0",
		"0::0", "0 :0", "0: 0", "0;0", "0-0", "00:0", "0:00", "01:1", "1:01", "+1:1", "1:+1", "-0:0", "0:-0", "--1:1", "-01:1", "- 1:1",
		"-:1", "1:-", "1:-1", "1.0:1", "1:1.5", "1e1:1", "0x1:1", "1:0x1", "1_0:1", "1:1_0", "a:1", "1:a", "\u0661:1", "1:\u0661",
		"201:1", "-201:1", "1:401", "65536:1", "1:65536", "65537:1", "4294967297:1", "18446744073709551617:1", "1:18446744073709551616",
		"-65535:1", "32768:1", "0:10 0:20", "0:10 0:10", "1:10 0:20", "0:20 1:10", "0:10 1:20 2:19", "0:10 1:20 1:20",
		"-30:0 -23:1 -16:4 -9:9 -2:16 5:25 12:36 19:49 26:64 33:81 40:100 47:121 54:144", "0:0\x00", "\x000:0", "0:0\u00a01:1", "\u22121:1",
		"0:0\r\n", "[{0 0}]", "0:0 1:1 ", " 0:0 1:1",
	} {
		c, code := impl.ReadCurve(text)
		same(t, text, len(c), 0)
		same(t, text, code, int64(impl.ErrSyntax))
	}
}

// TestPromise1CurveTextsChanged changes single bytes: whatever is read is valid, and written just so.
func TestPromise1CurveTextsChanged(t *testing.T) {
	for _, text := range []string{"0:10 6:40 12:40 18:100", "-200:0 -19:9 200:400", "7:0"} {
		for i := 0; i <= len(text); i++ {
			for b := 0; b < 256; b++ {
				checkCurveReadBack(t, text[:i]+string([]byte{byte(b)})+text[i:])
				if i < len(text) {
					checkCurveReadBack(t, text[:i]+string([]byte{byte(b)})+text[i+1:])
				}
			}
			checkCurveReadBack(t, text[:i])
			checkCurveReadBack(t, text[i:])
		}
	}
}

func checkCurveReadBack(t *testing.T, text string) {
	t.Helper()
	c, code := impl.ReadCurve(text)
	if code == impl.OK && (!impl.ValidCurve(c) || impl.CurveText(c) != text) || code != impl.OK && (code != impl.ErrSyntax || len(c) > 0) {
		t.Errorf("%q: got %v %d", text, c, code)
	}
}
