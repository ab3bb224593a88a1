package tests

import (
	"math/rand"
	"slices"
	"testing"

	"loop.example/g01301/impl"
)

// wish is what a negative has, and what a print of it is to have.
type wish struct {
	thin, thick, dark, light int64
}

// someWishes have densities that hold a half back, and those with which papers differ.
func someWishes() []wish {
	list := []wish{
		{20, 60, 90, 40}, {0, 100, 100, 50}, {0, 0, 0, 0}, {400, 400, 400, 400}, {0, 400, 0, 400}, {0, 400, 400, 0}, {5, 5, 1, 0}, {4, 5, 99, 99},
	}
	numbers := rand.New(rand.NewSource(19))
	for range 40 {
		thin := numbers.Int63n(150)
		list = append(list, wish{thin, thin + numbers.Int63n(150), numbers.Int63n(300), numbers.Int63n(120)})
	}
	return list
}

// misfitBy tries all lights, and has the light and the misfit, or the code.
func misfitBy(paper impl.Curve, w wish) []int64 {
	light := leastLightBy(paper, w.thin, w.dark)
	if light == -1 {
		return []int64{0, 0, impl.ErrNotFound}
	}
	return []int64{light, shadeBy(paper, w.thick, light) - w.light, impl.OK}
}

func misfitOf(paper impl.Curve, w wish) []int64 {
	return numbersOf(impl.MisfitOf(paper, w.thin, w.thick, w.dark, w.light))
}

func bestOf(grades []impl.Curve, w wish) []int64 {
	return numbersOf(impl.BestGrade(grades, w.thin, w.thick, w.dark, w.light))
}

func TestPromise13Misfits(t *testing.T) {
	for _, paper := range stripPapers(60) {
		for _, w := range someWishes() {
			wantNumbers(t, "MisfitOf", misfitOf(paper, w), misfitBy(paper, w)...)
		}
		for _, thin := range edgeDensities() {
			for _, thick := range edgeDensities() {
				if thin <= thick {
					w := wish{thin, thick, shadeBy(paper, thin, 20), 40}
					wantNumbers(t, "MisfitOf", misfitOf(paper, w), misfitBy(paper, w)...)
				}
			}
		}
	}
}

func TestPromise13MisfitCases(t *testing.T) {
	flat := impl.Curve{{X: 5, Y: 33}}
	for _, c := range []struct {
		paper      impl.Curve
		w          wish
		want       []int64
		whyThatOne string
	}{
		{examplePaper(), wish{20, 60, 90, 40}, []int64{11, 10, impl.OK}, "the example"},
		{examplePaper(), wish{20, 60, 90, 60}, []int64{11, -10, impl.OK}, "too light"},
		{examplePaper(), wish{20, 60, 90, 50}, []int64{11, 0, impl.OK}, "just right"},
		{examplePaper(), wish{20, 20, 90, 90}, []int64{11, 0, impl.OK}, "thin and thick are equal"},
		{examplePaper(), wish{15, 24, 90, 40}, []int64{11, 50, impl.OK}, "a half, and just before one, hold as much back"},
		{examplePaper(), wish{14, 25, 90, 40}, []int64{10, 30, impl.OK}, "just before a half, and a half, do not"},
		{examplePaper(), wish{0, 0, 10, 90}, []int64{1, -80, impl.OK}, "dark is lighter than light"},
		{examplePaper(), wish{20, 60, 0, 40}, []int64{0, -40, impl.OK}, "no light is needed"},
		{examplePaper(), wish{0, 400, 100, 0}, []int64{10, 0, impl.OK}, "all that is held back"},
		{examplePaper(), wish{264, 264, 100, 0}, []int64{36, 100, impl.OK}, "the most light"},
		{examplePaper(), wish{265, 265, 100, 0}, []int64{0, 0, impl.ErrNotFound}, "more than the most light"},
		{examplePaper(), wish{265, 265, 90, 0}, []int64{36, 90, impl.OK}, "the most light, and not as dark"},
		{examplePaper(), wish{20, 60, 101, 40}, []int64{0, 0, impl.ErrNotFound}, "never as dark"},
		{flat, wish{0, 400, 33, 0}, []int64{0, 33, impl.OK}, "a flat paper"},
		{flat, wish{0, 400, 33, 400}, []int64{0, -367, impl.OK}, "a flat paper, too light"},
		{flat, wish{0, 400, 34, 0}, []int64{0, 0, impl.ErrNotFound}, "a flat paper, never as dark"},
		{examplePaper(), wish{60, 59, 90, 40}, []int64{0, 0, impl.ErrRange}, "thin is greater than thick"},
		{examplePaper(), wish{60, 59, 101, 40}, []int64{0, 0, impl.ErrRange}, "thin is greater than thick, and never as dark"},
		{examplePaper(), wish{0, 0, 401, 0}, []int64{0, 0, impl.ErrRange}, "dark is too much"},
		{examplePaper(), wish{0, 0, 101, -1}, []int64{0, 0, impl.ErrRange}, "light is less than 0"},
	} {
		wantNumbers(t, c.whyThatOne, misfitOf(c.paper, c.w), c.want...)
	}
}

func sizeOf(n int64) int64 {
	return max(n, -n)
}

// TestPromise13Best holds the best paper against each other one: those before it misfit by more, and those behind it by no less.
func TestPromise13Best(t *testing.T) {
	for _, grades := range someGrades(700) {
		for _, w := range someWishes() {
			best := bestOf(grades, w)
			index, misfit, code := best[0], best[2], best[3]
			if code == impl.OK {
				wantNumbers(t, "what MisfitOf has", misfitOf(grades[index], w), best[1:]...)
			} else {
				wantNumbers(t, "none", best, 0, 0, 0, impl.ErrNotFound)
			}
			for i, paper := range grades {
				other := misfitOf(paper, w)
				if other[2] != impl.OK {
					continue
				}
				if code != impl.OK || sizeOf(other[1]) < sizeOf(misfit) || int64(i) < index && sizeOf(other[1]) == sizeOf(misfit) {
					t.Fatalf("BestGrade %v %v: got %v, but %d misfits by %d", grades, w, best, i, other[1])
				}
			}
		}
	}
}

func TestPromise13BestByWords(t *testing.T) {
	for _, grades := range someGrades(300) {
		for _, w := range someWishes() {
			want := []int64{0, 0, 0, impl.ErrNotFound}
			for i := len(grades) - 1; i >= 0; i-- {
				found := misfitBy(grades[i], w)
				if found[2] == impl.OK && (want[3] != impl.OK || sizeOf(found[1]) <= sizeOf(want[2])) {
					want = append([]int64{int64(i)}, found...)
				}
			}
			wantNumbers(t, "BestGrade", bestOf(grades, w), want...)
		}
	}
}

func TestPromise13BestCases(t *testing.T) {
	never, w := unreached(), wish{0, 100, 100, 50}
	soft := impl.Curve{{X: 0, Y: 0}, {X: 20, Y: 100}}
	for _, c := range []struct {
		grades     []impl.Curve
		w          wish
		want       []int64
		whyThatOne string
	}{
		{[]impl.Curve{examplePaper(), soft}, wish{20, 60, 90, 40}, []int64{0, 11, 10, impl.OK}, "the harder one"},
		{[]impl.Curve{soft, examplePaper()}, wish{20, 60, 90, 40}, []int64{1, 11, 10, impl.OK}, "the harder one, which is behind"},
		{[]impl.Curve{soft, examplePaper()}, wish{20, 60, 90, 70}, []int64{0, 20, 0, impl.OK}, "the softer one"},
		{[]impl.Curve{fitting(40), fitting(60)}, w, []int64{0, 10, -10, impl.OK}, "less than 0, ahead of one greater than 0"},
		{[]impl.Curve{fitting(60), fitting(40)}, w, []int64{0, 10, 10, impl.OK}, "greater than 0, ahead of one less than 0"},
		{[]impl.Curve{fitting(30), fitting(60), fitting(40)}, w, []int64{1, 10, 10, impl.OK}, "the first one of two that fit equally"},
		{[]impl.Curve{fitting(30), fitting(40), fitting(60)}, w, []int64{1, 10, -10, impl.OK}, "the first one of two, less than 0"},
		{[]impl.Curve{fitting(30), fitting(61)}, w, []int64{1, 10, 11, impl.OK}, "11 is nearer than -20"},
		{[]impl.Curve{fitting(39), fitting(60)}, w, []int64{1, 10, 10, impl.OK}, "10 is nearer than -11"},
		{[]impl.Curve{fitting(61), fitting(40)}, w, []int64{1, 10, -10, impl.OK}, "-10 is nearer than 11"},
		{[]impl.Curve{fitting(51), fitting(50), fitting(50)}, w, []int64{1, 10, 0, impl.OK}, "the first one that fits"},
		{[]impl.Curve{fitting(49), fitting(51), fitting(50)}, w, []int64{2, 10, 0, impl.OK}, "the last one fits"},
		{[]impl.Curve{never, fitting(90)}, w, []int64{1, 10, 40, impl.OK}, "the first one is left out"},
		{[]impl.Curve{fitting(90), never}, w, []int64{0, 10, 40, impl.OK}, "the last one is left out"},
		{[]impl.Curve{never, fitting(90), never, fitting(60), never, fitting(40)}, w, []int64{3, 10, 10, impl.OK}, "each other one is left out"},
		{[]impl.Curve{never, never, fitting(0)}, w, []int64{2, 10, -50, impl.OK}, "only the last one is not left out"},
		{[]impl.Curve{never}, w, []int64{0, 0, 0, impl.ErrNotFound}, "the only one is left out"},
		{slices.Repeat([]impl.Curve{never}, 6), w, []int64{0, 0, 0, impl.ErrNotFound}, "all are left out"},
		{slices.Repeat([]impl.Curve{fitting(44)}, 6), w, []int64{0, 10, -6, impl.OK}, "all are equal"},
		{[]impl.Curve{fitting(44)}, w, []int64{0, 10, -6, impl.OK}, "one alone"},
		{[]impl.Curve{scaled(0, 10), scaled(5, 10), scaled(3, 10)}, w, []int64{0, 10, -50, impl.OK}, "equal but for the light"},
		{[]impl.Curve{scaled(5, 10), scaled(0, 10), scaled(3, 10)}, w, []int64{0, 15, -50, impl.OK}, "equal but for the light, which does not count"},
		{[]impl.Curve{never, scaled(26, 10), scaled(27, 10), scaled(0, 10)}, w, []int64{1, 36, -50, impl.OK}, "the most light"},
	} {
		wantNumbers(t, c.whyThatOne, bestOf(c.grades, c.w), c.want...)
	}
}
