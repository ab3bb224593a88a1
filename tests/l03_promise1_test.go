package tests

import (
	"maps"
	"math"
	"slices"
	"strings"
	"testing"

	"loop.example/g01301/impl"
)

// TestPromise1PrintInt16 holds validity against its definition for each density that a cell can have.
func TestPromise1PrintInt16(t *testing.T) {
	for _, cell := range edgeCells() {
		for density := math.MinInt16; density <= math.MaxInt16; density++ {
			g := with(numbered(), cell, int16(density))
			want := density >= 0 && density <= 400
			if impl.ValidNegative(g) != want || impl.ValidPrint(g) != want {
				t.Fatalf("%d at %d: want %v", density, cell, want)
			}
		}
	}
}

func TestPromise1StepInt8(t *testing.T) {
	for thirds := math.MinInt8; thirds <= math.MaxInt8; thirds++ {
		want := thirds >= 0 && thirds <= 36
		for _, mask := range []uint64{noCells, allCells, 1, 1 << 63} {
			s := impl.Step{Mask: mask, Thirds: int8(thirds)}
			same(t, "alone", impl.ValidSteps([]impl.Step{s}), want)
			same(t, "at first", impl.ValidSteps([]impl.Step{s, {Mask: 1, Thirds: 5}}), want)
			same(t, "at last", impl.ValidSteps([]impl.Step{{Mask: 1, Thirds: 5}, s}), want)
			same(t, "as the last of all", impl.ValidSteps(append(repeated(29, 1, 5), s)), want)
		}
	}
}

func TestPromise1StepLengths(t *testing.T) {
	for count := range 50 {
		same(t, "ValidSteps", impl.ValidSteps(repeated(count, 1, 36)), count <= 30)
		same(t, "ValidSteps without cells", impl.ValidSteps(repeated(count, 0, 0)), count <= 30)
	}
	same(t, "limits", []int64{impl.Side, impl.MaxSteps}, []int64{8, 30})
}

// TestPromise1InvalidNegatives gives arguments that are wrong otherwise as well, because ErrInvalid comes first.
func TestPromise1InvalidNegatives(t *testing.T) {
	for which, bad := range invalidGrids() {
		same(t, which, impl.ValidNegative(bad), false)
		wantOutcome(t, which, outcomeOf(impl.PrintFrom(bad, examplePaper(), nil)), impl.ErrInvalid)
		wantOutcome(t, which, outcomeOf(impl.PrintFrom(bad, nil, repeated(31, 1, 1))), impl.ErrInvalid)
		wantOutcome(t, which, outcomeOf(impl.StepsFor(bad, examplePaper(), flat(0))), impl.ErrInvalid)
		wantOutcome(t, which, outcomeOf(impl.StepsFor(bad, examplePaper(), flat(400))), impl.ErrInvalid)
		wantOutcome(t, which, outcomeOf(impl.MirrorNegative(bad)), impl.ErrInvalid)
		wantOutcome(t, which, outcomeOf(impl.TurnNegative(bad)), impl.ErrInvalid)
		for _, n := range []int64{0, 4, -1, 5, math.MinInt64, math.MaxInt64} {
			wantOutcome(t, which, outcomeOf(impl.EnlargePart(bad, n, 0)), impl.ErrInvalid)
			wantOutcome(t, which, outcomeOf(impl.EnlargePart(bad, 4, n)), impl.ErrInvalid)
		}
		for _, text := range []string{"0:0 10:100\n", "0:0 10:100\nffffffffffffffff 6\n", "", "x"} {
			wantOutcome(t, which, outcomeOf(impl.RedoLog(bad, text)), impl.ErrInvalid)
		}
	}
	for which, n := range validGrids() {
		same(t, which, impl.ValidNegative(n), true)
	}
}

func TestPromise1InvalidPrints(t *testing.T) {
	for which, bad := range invalidGrids() {
		same(t, which, impl.ValidPrint(bad), false)
		wantOutcome(t, which, outcomeOf(impl.RangeOf(bad)), impl.ErrInvalid)
		wantOutcome(t, which, outcomeOf(impl.StepsFor(flat(0), examplePaper(), bad)), impl.ErrInvalid)
		wantOutcome(t, which, outcomeOf(impl.StepsFor(flat(400), examplePaper(), bad)), impl.ErrInvalid)
		for _, other := range []impl.Print{flat(0), flat(400), bad} {
			wantOutcome(t, which, outcomeOf(impl.GreatestDifference(bad, other)), impl.ErrInvalid)
			wantOutcome(t, which, outcomeOf(impl.GreatestDifference(other, bad)), impl.ErrInvalid)
			for _, within := range []int64{0, 400, -1, 401, math.MinInt64, math.MaxInt64} {
				wantOutcome(t, which, outcomeOf(impl.DifferIn(bad, other, within)), impl.ErrInvalid)
				wantOutcome(t, which, outcomeOf(impl.DifferIn(other, bad, within)), impl.ErrInvalid)
			}
		}
	}
	for which, p := range validGrids() {
		same(t, which, impl.ValidPrint(p), true)
	}
}

func TestPromise1InvalidPapers(t *testing.T) {
	for which, bad := range invalidCurves() {
		wantOutcome(t, which, outcomeOf(impl.PrintFrom(flat(20), bad, nil)), impl.ErrInvalid)
		wantOutcome(t, which, outcomeOf(impl.PrintFrom(flat(20), bad, repeated(1, allCells, 6))), impl.ErrInvalid)
		wantOutcome(t, which, outcomeOf(impl.StepsFor(flat(20), bad, flat(0))), impl.ErrInvalid)
		wantOutcome(t, which, outcomeOf(impl.StepsFor(flat(20), bad, flat(400))), impl.ErrInvalid)
		same(t, which, impl.LogText(bad, nil), "")
		same(t, which, impl.LogText(bad, repeated(1, allCells, 6)), "")
	}
}

func TestPromise1InvalidSteps(t *testing.T) {
	for which, bad := range invalidStepLists() {
		same(t, which, impl.ValidSteps(bad), false)
		wantOutcome(t, which, outcomeOf(impl.TimesOn(bad)), impl.ErrInvalid)
		wantOutcome(t, which, outcomeOf(impl.LightOn(bad)), impl.ErrInvalid)
		wantOutcome(t, which, outcomeOf(impl.PrintFrom(flat(20), examplePaper(), bad)), impl.ErrInvalid)
		wantOutcome(t, which, outcomeOf(impl.ShorterSteps(bad)), impl.ErrInvalid)
		wantOutcome(t, which, outcomeOf(impl.MirrorSteps(bad)), impl.ErrInvalid)
		same(t, which, impl.LogText(examplePaper(), bad), "")
	}
	for which, steps := range validStepLists() {
		same(t, which, impl.ValidSteps(steps), true)
	}
}

// TestPromise1MaskRanges has numbers that wrap around to cells as well.
func TestPromise1MaskRanges(t *testing.T) {
	numbers := []int64{math.MinInt64, -1 << 32, -256, -8, -1, 0, 1, 6, 7, 8, 63, 64, 256, 1 << 32, 1<<32 + 3, math.MaxInt64}
	inside := func(n int64) bool { return n >= 0 && n <= 7 }
	for _, west := range numbers {
		for _, north := range numbers {
			for _, east := range numbers {
				for _, south := range numbers {
					got := outcomeOf(impl.MaskOf(west, north, east, south))
					fits := inside(west) && inside(north) && inside(east) && inside(south) && west <= east && north <= south
					if fits && (got.code != impl.OK || got.zero) || !fits && (got.code != impl.ErrRange || !got.zero) {
						t.Fatalf("MaskOf %d %d %d %d: got %s %d", west, north, east, south, got.results, got.code)
					}
				}
			}
		}
	}
}

func TestPromise1PrintRanges(t *testing.T) {
	for _, a := range edgeNumbers() {
		for _, b := range edgeNumbers() {
			checkRange(t, "DodgeSteps", outcomeOf(impl.DodgeSteps(a, 5, b)), a >= 0 && a <= 36 && b >= 0 && b < a)
			checkRange(t, "BurnSteps", outcomeOf(impl.BurnSteps(a, 5, b)), a >= 0 && a <= 36 && b >= 0 && b <= 36)
			checkRange(t, "EnlargePart", outcomeOf(impl.EnlargePart(numbered(), a, b)), a >= 0 && a <= 4 && b >= 0 && b <= 4)
		}
	}
	for _, within := range append(edgePlaces(), edgeNumbers()...) {
		checkRange(t, "DifferIn", outcomeOf(impl.DifferIn(flat(400), flat(0), within)), within >= 0 && within <= 400)
		checkRange(t, "DifferIn", outcomeOf(impl.DifferIn(flat(9), flat(9), within)), within >= 0 && within <= 400)
	}
}

func checkRange(t *testing.T, name string, got outcome, fits bool) {
	t.Helper()
	if fits && got.code != impl.OK || !fits && (got.code != impl.ErrRange || !got.zero) {
		t.Errorf("%s: got %s %d, but that it fits is %v", name, got.results, got.code, fits)
	}
}

// TestPromise1PrintsHuge gives lists and texts with a million elements.
func TestPromise1PrintsHuge(t *testing.T) {
	const million = 1000000
	huge := make([]impl.Step, million)
	same(t, "ValidSteps", impl.ValidSteps(huge), false)
	same(t, "SameSteps", impl.SameSteps(huge, slices.Clone(huge)), true)
	same(t, "SameSteps", impl.SameSteps(huge, huge[1:]), false)
	same(t, "LogText", impl.LogText(examplePaper(), huge), "")
	same(t, "LogText", impl.LogText(make(impl.Curve, million), nil), "")
	wantOutcome(t, "TimesOn", outcomeOf(impl.TimesOn(huge)), impl.ErrInvalid)
	wantOutcome(t, "LightOn", outcomeOf(impl.LightOn(huge)), impl.ErrInvalid)
	wantOutcome(t, "ShorterSteps", outcomeOf(impl.ShorterSteps(huge)), impl.ErrInvalid)
	wantOutcome(t, "MirrorSteps", outcomeOf(impl.MirrorSteps(huge)), impl.ErrInvalid)
	wantOutcome(t, "PrintFrom", outcomeOf(impl.PrintFrom(flat(0), examplePaper(), huge)), impl.ErrInvalid)
	wantOutcome(t, "StepsFor", outcomeOf(impl.StepsFor(flat(0), make(impl.Curve, million), flat(0))), impl.ErrInvalid)
	for _, part := range []string{"\n", " ", ":", "0", "f", "0:0 ", "0:0\n", "0 0\n", "0000000000000001 6\n", "\x00", "\xff"} {
		text := strings.Repeat(part, million/len(part))
		for _, start := range []string{"", "0:0", "0:0\n", "0:0\n0000000000000001 6\n"} {
			wantOutcome(t, "ReadLog", outcomeOf(impl.ReadLog(start+text)), impl.ErrSyntax)
			wantOutcome(t, "RedoLog", outcomeOf(impl.RedoLog(flat(0), start+text)), impl.ErrSyntax)
		}
	}
}

// TestPromise1StepsNilAndEmpty: both are the same list, by which no cell gets light.
func TestPromise1StepsNilAndEmpty(t *testing.T) {
	dark := [64]int64{}
	for cell := range dark {
		dark[cell] = -1
	}
	lists := [][]impl.Step{nil, {}, repeated(3, 1, 1)[:0]}
	for _, a := range lists {
		for _, b := range lists {
			same(t, "SameSteps", impl.SameSteps(a, b), true)
		}
		same(t, "SameSteps", impl.SameSteps(a, repeated(1, 0, 0)), false)
		same(t, "SameSteps", impl.SameSteps(repeated(1, 0, 0), a), false)
		same(t, "ValidSteps", impl.ValidSteps(a), true)
		times, code := impl.TimesOn(a)
		same(t, "TimesOn", times, [64]int64{})
		same(t, "TimesOn", code, int64(impl.OK))
		light, code := impl.LightOn(a)
		same(t, "LightOn", light, dark)
		same(t, "LightOn", code, int64(impl.OK))
		p, code := impl.PrintFrom(flat(0), impl.Curve{{X: -200, Y: 4}, {X: -199, Y: 9}}, a)
		same(t, "PrintFrom", p, impl.Print(flat(4)))
		same(t, "PrintFrom", code, int64(impl.OK))
		steps, code := impl.ShorterSteps(a)
		wantSteps(t, "ShorterSteps", steps, code, nil, impl.OK)
		steps, code = impl.MirrorSteps(a)
		wantSteps(t, "MirrorSteps", steps, code, nil, impl.OK)
		same(t, "LogText", impl.LogText(examplePaper(), a), "0:0 10:100\n")
	}
	paper, steps, code := impl.ReadLog("0:0 10:100\n")
	same(t, "the paper", paper, examplePaper())
	wantSteps(t, "ReadLog", steps, code, nil, impl.OK)
}

func TestPromise1SameSteps(t *testing.T) {
	all := slices.AppendSeq(someStepLists(20), maps.Values(invalidStepLists()))
	for _, a := range all {
		same(t, "SameSteps", impl.SameSteps(a, slices.Clone(a)), true)
		for _, b := range all {
			same(t, "SameSteps", impl.SameSteps(a, b), slices.Equal(a, b))
		}
		for i := range a {
			other := slices.Clone(a)
			other[i].Mask ^= 1 << 63
			same(t, "SameSteps with another mask", impl.SameSteps(a, other), false)
			other = slices.Clone(a)
			other[i].Thirds++
			same(t, "SameSteps with other thirds", impl.SameSteps(a, other), false)
			same(t, "SameSteps of the beginning", impl.SameSteps(a, a[:i]), false)
			same(t, "SameSteps with the beginning", impl.SameSteps(a[:i], a), false)
		}
	}
}

// markedSteps returns steps with unused capacity, which has marks that have to stay, and all of its memory.
func markedSteps(steps []impl.Step) ([]impl.Step, []impl.Step) {
	whole := append(slices.Clone(steps), repeated(40, 77, -77)...)
	return whole[:len(steps)], whole
}

// TestPromise1PrintArguments: all arguments stay as they are, behind their ends too.
func TestPromise1PrintArguments(t *testing.T) {
	lists := slices.AppendSeq(someStepLists(100), maps.Values(invalidStepLists()))
	for _, list := range lists {
		for _, curve := range []impl.Curve{examplePaper(), {{X: 5, Y: 2}, {X: 4, Y: 1}}} {
			steps, whole := markedSteps(list)
			paper, wholePaper := marked(curve)
			kept, keptPaper := slices.Clone(whole), slices.Clone(wholePaper)
			impl.ValidSteps(steps)
			impl.SameSteps(steps, steps)
			impl.TimesOn(steps)
			impl.LightOn(steps)
			impl.PrintFrom(flat(20), paper, steps)
			impl.StepsFor(flat(20), paper, flat(50))
			impl.ShorterSteps(steps)
			impl.MirrorSteps(steps)
			impl.LogText(paper, steps)
			same(t, "steps", whole, kept)
			same(t, "paper", wholePaper, keptPaper)
		}
	}
}

// TestPromise1PrintResults changes each list that is returned, and all behind it: no argument changes with it.
func TestPromise1PrintResults(t *testing.T) {
	for which, list := range validStepLists() {
		steps, whole := markedSteps(list)
		kept := slices.Clone(whole)
		text := impl.LogText(examplePaper(), steps)
		for name, call := range map[string]func() ([]impl.Step, int64){
			"DodgeSteps":   func() ([]impl.Step, int64) { return impl.DodgeSteps(6, 1, 3) },
			"BurnSteps":    func() ([]impl.Step, int64) { return impl.BurnSteps(6, 1, 3) },
			"StepsFor":     func() ([]impl.Step, int64) { return impl.StepsFor(numbered(), exampleCurve(), flat(0)) },
			"ShorterSteps": func() ([]impl.Step, int64) { return impl.ShorterSteps(steps) },
			"MirrorSteps":  func() ([]impl.Step, int64) { return impl.MirrorSteps(steps) },
			"ReadLog": func() ([]impl.Step, int64) {
				_, read, code := impl.ReadLog(text)
				return read, code
			},
		} {
			checkFresh(t, name+" of "+which, call, impl.Step{Mask: 99, Thirds: -9})
			same(t, name+" of "+which, whole, kept)
		}
		checkFresh(t, "the paper of ReadLog", func() ([]impl.Point, int64) {
			paper, _, code := impl.ReadLog(text)
			return paper, code
		}, impl.Point{X: -3, Y: -3})
	}
}

// TestPromise1PrintsAgain calls with equal arguments, one after the other.
func TestPromise1PrintsAgain(t *testing.T) {
	for _, steps := range someStepLists(100) {
		for name, call := range map[string]func() outcome{
			"TimesOn":      func() outcome { return outcomeOf(impl.TimesOn(steps)) },
			"LightOn":      func() outcome { return outcomeOf(impl.LightOn(steps)) },
			"PrintFrom":    func() outcome { return outcomeOf(impl.PrintFrom(numbered(), exampleCurve(), steps)) },
			"ShorterSteps": func() outcome { return outcomeOf(impl.ShorterSteps(steps)) },
			"MirrorSteps":  func() outcome { return outcomeOf(impl.MirrorSteps(steps)) },
			"ReadLog":      func() outcome { return outcomeOf(impl.ReadLog(impl.LogText(exampleCurve(), steps))) },
		} {
			first := call()
			same(t, name, call(), first)
			same(t, name, first.code, int64(impl.OK))
		}
	}
}
