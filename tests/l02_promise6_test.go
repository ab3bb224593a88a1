package tests

import (
	"testing"

	"loop.example/g01301/impl"
)

func examplePaper() impl.Curve {
	return impl.Curve{{X: 0, Y: 0}, {X: 10, Y: 100}}
}

// heldBy counts the thirds that a density holds back: one more from each half on.
func heldBy(density int64) int64 {
	held := int64(0)
	for 10*held+5 <= density {
		held++
	}
	return held
}

func printedBy(film, paper impl.Curve, x, light int64) int64 {
	return densityBy(paper, light-heldBy(densityBy(film, x)))
}

// somePairs are pairs of a film and a paper.
func somePairs() [][2]impl.Curve {
	pairs := [][2]impl.Curve{{exampleCurve(), examplePaper()}}
	curves := someCurves(12)
	for i, film := range curves {
		pairs = append(pairs, [2]impl.Curve{film, curves[(i+5)%len(curves)]}, [2]impl.Curve{film, examplePaper()})
	}
	return pairs
}

func TestPromise6Printed(t *testing.T) {
	for _, pair := range somePairs() {
		film, paper := pair[0], pair[1]
		for x := int64(-200); x <= 200; x += 3 {
			for light := int64(-200); light <= 200; light += 5 {
				density, code := impl.PrintedAt(film, paper, x, light)
				if density != printedBy(film, paper, x, light) || code != impl.OK {
					t.Fatalf("%v %v %d %d: got %d %d", film, paper, x, light, density, code)
				}
			}
		}
	}
}

// TestPromise6Order: more light makes no density less, and more exposure of the film none greater.
func TestPromise6Order(t *testing.T) {
	for _, pair := range somePairs() {
		film, paper := pair[0], pair[1]
		for fixed := int64(-200); fixed <= 200; fixed += 20 {
			lastByLight, lastByExposure := int64(0), int64(400)
			for n := int64(-200); n <= 200; n++ {
				byLight, code := impl.PrintedAt(film, paper, fixed, n)
				if byLight < lastByLight || code != impl.OK {
					t.Fatalf("%v %v: %d is less than %d", film, paper, byLight, lastByLight)
				}
				byExposure, code := impl.PrintedAt(film, paper, n, fixed)
				if byExposure > lastByExposure || code != impl.OK {
					t.Fatalf("%v %v: %d is more than %d", film, paper, byExposure, lastByExposure)
				}
				lastByLight, lastByExposure = byLight, byExposure
			}
		}
	}
}

// TestPromise6Held prints below each density there is, on a paper that shows each third.
func TestPromise6Held(t *testing.T) {
	paper := impl.Curve{{X: -200, Y: 0}, {X: 200, Y: 400}}
	for d := int64(0); d <= 400; d++ {
		film := impl.Curve{{X: 0, Y: int16(d)}}
		density, code := impl.PrintedAt(film, paper, 0, 0)
		same(t, "PrintedAt", []int64{density, code}, []int64{200 - heldBy(d), impl.OK})
	}
	for d, want := range map[int64]int64{0: 200, 4: 200, 5: 199, 14: 199, 15: 198, 24: 198, 25: 197, 394: 161, 395: 160, 400: 160} {
		density, code := impl.PrintedAt(impl.Curve{{X: 0, Y: int16(d)}}, paper, 0, 0)
		same(t, "PrintedAt", []int64{density, code}, []int64{want, impl.OK})
	}
}

func TestPromise6PrintedCases(t *testing.T) {
	dark := impl.Curve{{X: 0, Y: 400}}
	clear := impl.Curve{{X: 0, Y: 0}}
	ends := impl.Curve{{X: -200, Y: 1}, {X: -199, Y: 9}, {X: 199, Y: 300}, {X: 200, Y: 350}}
	for _, c := range []struct {
		film, paper    impl.Curve
		x, light, want int64
	}{
		{exampleCurve(), examplePaper(), 9, 8, 40},
		{exampleCurve(), examplePaper(), -200, 8, 70},
		{exampleCurve(), examplePaper(), 200, 8, 0},
		{exampleCurve(), examplePaper(), 200, 11, 10},
		{exampleCurve(), examplePaper(), 200, 20, 100},
		{exampleCurve(), examplePaper(), 200, 200, 100},
		{exampleCurve(), examplePaper(), 200, -200, 0},
		{dark, ends, 0, -200, 1},
		{dark, ends, 0, -160, 1},
		{dark, ends, 0, -159, 9},
		{dark, ends, 0, 200, 271},
		{clear, ends, 0, -200, 1},
		{clear, ends, 0, -199, 9},
		{clear, ends, 0, 200, 350},
	} {
		density, code := impl.PrintedAt(c.film, c.paper, c.x, c.light)
		if density != c.want || code != impl.OK {
			t.Errorf("%v %v %d %d: got %d %d, want %d", c.film, c.paper, c.x, c.light, density, code, c.want)
		}
	}
}

func TestPromise6Ranges(t *testing.T) {
	for _, pair := range somePairs() {
		film, paper := pair[0], pair[1]
		for _, light := range []int64{-200, -37, 0, 8, 20, 200} {
			for low := int64(-200); low <= 200; low += 16 {
				least, greatest := int64(400), int64(0)
				for high := low; high <= 200; high++ {
					density := printedBy(film, paper, high, light)
					least, greatest = min(least, density), max(greatest, density)
					gotLeast, gotGreatest, code := impl.PrintedRange(film, paper, low, high, light)
					if gotLeast != least || gotGreatest != greatest || code != impl.OK {
						t.Fatalf("%v %v %d %d %d: got %d %d %d, want %d %d", film, paper, low, high, light, gotLeast, gotGreatest, code, least, greatest)
					}
				}
			}
		}
	}
}

func TestPromise6RangeCases(t *testing.T) {
	for _, c := range []struct {
		low, high, light int64
		want             []int64
	}{
		{0, 6, 8, []int64{40, 70, impl.OK}},
		{6, 6, 8, []int64{40, 40, impl.OK}},
		{-200, 200, 8, []int64{0, 70, impl.OK}},
		{200, 200, 200, []int64{100, 100, impl.OK}},
		{-200, -200, -200, []int64{0, 0, impl.OK}},
		{7, 6, 8, []int64{0, 0, impl.ErrState}},
		{200, -200, 8, []int64{0, 0, impl.ErrState}},
		{201, 6, 8, []int64{0, 0, impl.ErrRange}},
		{7, -201, 8, []int64{0, 0, impl.ErrRange}},
		{7, 6, 201, []int64{0, 0, impl.ErrRange}},
		{7, 6, -201, []int64{0, 0, impl.ErrRange}},
		{-201, 6, 8, []int64{0, 0, impl.ErrRange}},
		{6, 201, 8, []int64{0, 0, impl.ErrRange}},
	} {
		least, greatest, code := impl.PrintedRange(exampleCurve(), examplePaper(), c.low, c.high, c.light)
		same(t, "PrintedRange", []int64{least, greatest, code}, c.want)
	}
}

// TestPromise6LightFor tries all light for all densities.
func TestPromise6LightFor(t *testing.T) {
	for _, pair := range somePairs() {
		film, paper := pair[0], pair[1]
		for x := int64(-200); x <= 200; x += 25 {
			light := int64(-200)
			for y := int64(0); y <= 400; y++ {
				for light <= 200 && printedBy(film, paper, x, light) < y {
					light++
				}
				want, wantCode := light, int64(impl.OK)
				if light > 200 {
					want, wantCode = 0, impl.ErrNotFound
				}
				got, code := impl.LightFor(film, paper, x, y)
				if got != want || code != wantCode {
					t.Fatalf("%v %v %d %d: got %d %d, want %d %d", film, paper, x, y, got, code, want, wantCode)
				}
			}
		}
	}
}

func TestPromise6LightCases(t *testing.T) {
	dark := impl.Curve{{X: 0, Y: 400}}
	late := impl.Curve{{X: 150, Y: 5}, {X: 160, Y: 105}, {X: 161, Y: 205}}
	for _, c := range []struct {
		film, paper impl.Curve
		x, y        int64
		want        []int64
	}{
		{exampleCurve(), examplePaper(), 9, 50, []int64{9, impl.OK}},
		{exampleCurve(), examplePaper(), 9, 51, []int64{10, impl.OK}},
		{exampleCurve(), examplePaper(), 9, 0, []int64{-200, impl.OK}},
		{exampleCurve(), examplePaper(), -200, 1, []int64{2, impl.OK}},
		{exampleCurve(), examplePaper(), 200, 100, []int64{20, impl.OK}},
		{exampleCurve(), examplePaper(), 200, 101, []int64{0, impl.ErrNotFound}},
		{dark, late, 0, 5, []int64{-200, impl.OK}},
		{dark, late, 0, 105, []int64{200, impl.OK}},
		{dark, late, 0, 106, []int64{0, impl.ErrNotFound}}, // the light would be 201
		{dark, late, 201, 106, []int64{0, impl.ErrRange}},
		{dark, late, -201, 5, []int64{0, impl.ErrRange}},
		{dark, late, 0, 401, []int64{0, impl.ErrRange}},
		{dark, late, 0, -1, []int64{0, impl.ErrRange}},
	} {
		light, code := impl.LightFor(c.film, c.paper, c.x, c.y)
		same(t, "LightFor", []int64{light, code}, c.want)
	}
}
