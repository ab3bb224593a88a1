package tests

import (
	"fmt"
	"math/rand"
	"slices"
	"testing"

	"loop.example/g01301/impl"
)

// picture is a scene with all that is needed to make prints of it.
type picture struct {
	scene impl.Scene
	place impl.Placement
	film  impl.Curve
	paper impl.Curve
	light int64
}

// sceneCellOf is the cell of the scene that a cell of the negative shows.
func sceneCellOf(cell int) int {
	return cell%8*6/8 + 6*(cell/16)
}

// exposureOf is by how many thirds more the film is exposed in a cell than for the zone 5.
func (p picture) exposureOf(cell int) int64 {
	return int64(p.scene[sceneCellOf(cell)]) - int64(p.place.Reading) + 3*(int64(p.place.Zone)-5)
}

func (p picture) String() string {
	return fmt.Sprint("the scene ", p.scene, " by ", p.place, " on ", p.film, " and ", p.paper, " with ", p.light)
}

func must[T any](t *testing.T, what string) func(T, int64) T {
	return func(result T, code int64) T {
		t.Helper()
		if code != impl.OK {
			t.Fatalf("%s: got the code %d", what, code)
		}
		return result
	}
}

func (p picture) negative(t *testing.T) impl.Negative {
	n := impl.Negative{}
	for cell := range n {
		n[cell] = int16(must[int64](t, "CurveAt")(impl.CurveAt(p.film, p.exposureOf(cell))))
	}
	return n
}

// one exposes all cells with one light.
func one(light int64) []impl.Step {
	return []impl.Step{{Mask: allCells, Thirds: int8(light)}}
}

func (p picture) print(t *testing.T) impl.Print {
	return must[impl.Print](t, "PrintFrom")(impl.PrintFrom(p.negative(t), p.paper, one(p.light)))
}

// examplePicture has 10, 40 and 100 on the film, which hold 1, 4 and 10 thirds back.
func examplePicture() picture {
	return picture{scene: exampleScene(), place: impl.Placement{Reading: 10, Zone: 5}, film: exampleCurve(), paper: examplePaper(), light: 12}
}

func somePictures(count int) []picture {
	list, numbers := []picture{examplePicture()}, rand.New(rand.NewSource(37))
	films, papers, scenes := append(someCurves(30), exampleCurve()), append(stripPapers(30), somePapers(20)...), someScenes(60)
	for range count {
		list = append(list, picture{
			scene: scenes[numbers.Intn(len(scenes))],
			place: impl.Placement{Reading: int8(numbers.Intn(61)), Zone: int8(numbers.Intn(11))},
			film:  films[numbers.Intn(len(films))],
			paper: papers[numbers.Intn(len(papers))],
			light: int64(numbers.Intn(37)),
		})
	}
	return list
}

// TestPromise20Example follows one picture, whose numbers are worked out by hand, through all chapters.
func TestPromise20Example(t *testing.T) {
	p := examplePicture()
	part, corner := must[uint64](t, "the part")(impl.MaskOf(4, 2, 6, 5)), must[uint64](t, "the corner")(impl.MaskOf(7, 6, 7, 7))
	n := impl.Negative(flat(10))
	want := impl.Print(flat(100))
	for cell := range 64 {
		if hasBit(part, cell) {
			n[cell], want[cell] = 40, 80
		}
		if hasBit(corner, cell) {
			n[cell], want[cell] = 100, 20
		}
	}
	same(t, "the negative", p.negative(t), n)
	same(t, "the print", p.print(t), want)
	metered := setting(9, 18, 3)
	for reading, more := range map[int64]int64{10: 0, 20: 10, 40: 30} {
		s, code := impl.SettingFor(metered, reading, p.place)
		wantSetting(t, "SettingFor", s, code, setting(9+more, 18, 3), impl.OK)
	}
	text := impl.LogText(p.paper, one(12))
	same(t, "the log", text, "0:0 10:100\nffffffffffffffff 12\n")
	again, code := impl.RedoLog(n, text)
	wantPrint(t, "made again", again, code, want, impl.OK)
	steps, code := impl.StepsFor(n, p.paper, want)
	wantSteps(t, "StepsFor", steps, code, []impl.Step{{Mask: ^(part | corner), Thirds: 11}, {Mask: part | corner, Thirds: 12}}, impl.OK)
	wantNumbers(t, "by strips", numbersOf(impl.LightByStrips(p.paper, 10, 100)), 11, 2, impl.OK)
	wantNumbers(t, "by strips, the part", numbersOf(impl.LightByStrips(p.paper, 40, 80)), 12, 2, impl.OK)
	wantNumbers(t, "by strips, the corner", numbersOf(impl.LightByStrips(p.paper, 100, 20)), 12, 2, impl.OK)
	wantNumbers(t, "the misfit", numbersOf(impl.MisfitOf(p.paper, 10, 100, 100, 20)), 11, -10, impl.OK)
	copies := []impl.Print{want, with(want, 9, 30), with(want, 63, 400), want}
	median, code := impl.MedianPrint(copies)
	wantPrint(t, "the median", median, code, want, impl.OK)
	dust, code := impl.DustIn(copies, 1, 69)
	wantMask(t, "the dust", dust, code, 512, impl.OK)
	wantRepaired(t, "repaired", copies[1], dust, want, 1)
	d := exampleDeveloper()
	bath := must[impl.Bath](t, "NewBath")(impl.NewBath(d, 2000))
	wantNumbers(t, "a fresh bath", numbersOf(impl.DevelopTime(d, bath, 12, 20)), 16000, impl.OK)
	bath = must[impl.Bath](t, "DevelopSheet")(impl.DevelopSheet(d, bath, 500))
	wantNumbers(t, "a bath behind a sheet", numbersOf(impl.DevelopTime(d, bath, 12, 20)), 25392, impl.OK)
}

// TestPromise20Metered: what the film gets in a cell is by how much the setting for its reading has more light, and tells its zone.
func TestPromise20Metered(t *testing.T) {
	base := setting(22, 15, 9)
	for _, p := range somePictures(600) {
		zones, code := impl.ZonesOf(p.scene, p.place)
		same(t, "ZonesOf", code, int64(impl.OK))
		for cell := range 64 {
			x, reading := p.exposureOf(cell), int64(p.scene[sceneCellOf(cell)])
			same(t, "the zone", int64(zones[sceneCellOf(cell)]), 5+floorBy(x+301, 3)-100)
			s, code := impl.SettingFor(base, reading, p.place)
			if x < -37 || x > 38 {
				wantSetting(t, "SettingFor", s, code, impl.Setting{}, impl.ErrNotFound)
				continue
			}
			value := must[int64](t, "ValueOf")(impl.ValueOf(s))
			same(t, "the light", value-must[int64](t, "ValueOf")(impl.ValueOf(base)), x)
		}
	}
}

// TestPromise20Printed: curves and prints agree, cell by cell, and the log makes the print again.
func TestPromise20Printed(t *testing.T) {
	for _, p := range somePictures(600) {
		n, made := p.negative(t), p.print(t)
		low, high := p.exposureOf(0), p.exposureOf(0)
		for cell := range 64 {
			x := p.exposureOf(cell)
			low, high = min(low, x), max(high, x)
			wantNumbers(t, "PrintedAt", numbersOf(impl.PrintedAt(p.film, p.paper, x, p.light)), int64(made[cell]), impl.OK)
		}
		least, greatest, code := impl.PrintedRange(p.film, p.paper, low, high, p.light)
		wantNumbers(t, "RangeOf", numbersOf(impl.RangeOf(made)), least, greatest, code)
		text := impl.LogText(p.paper, one(p.light))
		again, code := impl.RedoLog(n, text)
		wantPrint(t, text, again, code, made, impl.OK)
		time := must[int64](t, "TimeOf")(impl.TimeOf(p.light))
		for cell, lit := range must[[64]int64](t, "LightOn")(impl.LightOn(one(p.light))) {
			same(t, "the light", lit, p.light)
			same(t, "the time", must[[64]int64](t, "TimesOn")(impl.TimesOn(one(p.light)))[cell], time)
		}
		wantNumbers(t, "ThirdsIn", numbersOf(impl.ThirdsIn(time)), p.light, impl.OK)
		wantNumbers(t, "EnlargedBy", numbersOf(impl.EnlargedBy(p.light, 30, 30)), p.light, impl.OK)
	}
}

// TestPromise20Ordered: a cell that is brighter in the scene is never darker in the print.
func TestPromise20Ordered(t *testing.T) {
	for _, p := range somePictures(60) {
		made := p.print(t)
		for a := range 64 {
			for b := range 64 {
				brighter, code := impl.BrighterField(p.scene, 1<<sceneCellOf(a), 1<<sceneCellOf(b))
				if code != impl.OK || brighter > 0 && made[a] > made[b] || brighter == 0 && made[a] != made[b] {
					t.Fatalf("%v: %d %d, and the densities %d and %d of %d and %d", p, brighter, code, made[a], made[b], a, b)
				}
			}
		}
	}
}

// TestPromise20Fields: what is alike within 0 has the same density on the film and in the print.
func TestPromise20Fields(t *testing.T) {
	for _, p := range somePictures(200) {
		n, made := p.negative(t), p.print(t)
		for _, field := range must[[]uint32](t, "AlikeFields")(impl.AlikeFields(p.scene, 0)) {
			shades, densities := map[int16]bool{}, map[int16]bool{}
			for cell := range 64 {
				if hasBit(uint64(field), sceneCellOf(cell)) {
					shades[made[cell]], densities[n[cell]] = true, true
				}
			}
			same(t, "one density", []int{len(shades), len(densities)}, []int{1, 1})
		}
	}
}

// TestPromise20Strips: strips, steps and curves find the same least light for a cell, and the bands have what the print has.
func TestPromise20Strips(t *testing.T) {
	for _, p := range somePictures(400) {
		n, made := p.negative(t), p.print(t)
		steps := must[[]impl.Step](t, "StepsFor")(impl.StepsFor(n, p.paper, made))
		for _, s := range steps {
			for _, cell := range cellsOf(s.Mask) {
				light, _, code := impl.LightByStrips(p.paper, int64(n[cell]), int64(made[cell]))
				wantNumbers(t, "LightByStrips", []int64{light, code}, int64(s.Thirds), impl.OK)
				same(t, "no more than the light of the print", light <= p.light, true)
				found, code := impl.LightFor(p.film, p.paper, p.exposureOf(cell), int64(made[cell]))
				wantNumbers(t, "LightFor", []int64{max(found, 0), code}, light, impl.OK)
			}
		}
		strip := impl.Strip{First: int8(p.light), Each: 1, Bands: 1}
		for cell := range 64 {
			want := []int64{int64(made[cell])}
			list, code := impl.BandsOf(strip, p.paper, int64(n[cell]))
			wantList(t, "BandsOf", list, code, want, impl.OK)
			list, code = impl.CoveredBands(strip, p.paper, int64(n[cell]))
			wantList(t, "CoveredBands", list, code, want, impl.OK)
		}
		again, code := impl.PrintFrom(n, p.paper, steps)
		wantPrint(t, "by steps", again, code, made, impl.OK)
		shorter := must[[]impl.Step](t, "ShorterSteps")(impl.ShorterSteps(steps))
		again, code = impl.PrintFrom(n, p.paper, shorter)
		wantPrint(t, "by shorter steps", again, code, made, impl.OK)
	}
}

// TestPromise20Grades: the paper of a print has a light by which its thinnest cell is as dark, and then no other cell is darker.
func TestPromise20Grades(t *testing.T) {
	for _, p := range somePictures(400) {
		n, made := p.negative(t), p.print(t)
		thin, thick := int64(slices.Min(n[:])), int64(slices.Max(n[:]))
		least, greatest, code := impl.RangeOf(made)
		same(t, "RangeOf", code, int64(impl.OK))
		light, misfit, code := impl.MisfitOf(p.paper, thin, thick, greatest, least)
		if code != impl.OK || light > p.light || misfit > 0 || light == p.light && misfit != 0 {
			t.Fatalf("%v: got %d %d %d", p, light, misfit, code)
		}
		wantNumbers(t, "BestGrade", numbersOf(impl.BestGrade([]impl.Curve{p.paper}, thin, thick, greatest, least)), 0, light, misfit, impl.OK)
		p.light = light
		wantNumbers(t, "RangeOf", numbersOf(impl.RangeOf(p.print(t))), least+misfit, greatest, impl.OK)
	}
}

// specked returns copies of a print, each of which has dust in other cells, and the masks of the dust.
func specked(numbers *rand.Rand, p impl.Print, count int) ([]impl.Print, []uint64) {
	copies, masks := make([]impl.Print, count), make([]uint64, count)
	for i := range copies {
		copies[i] = p
	}
	for cell := range 64 {
		if i := numbers.Intn(3 * count); i < count {
			copies[i][cell] = (p[cell] + int16(1+numbers.Intn(400))) % 401
			masks[i] |= 1 << cell
		}
	}
	return copies, masks
}

// TestPromise20Copied: copies with dust have the print as their median and as the best of them, and differ from it where they have dust.
func TestPromise20Copied(t *testing.T) {
	numbers := rand.New(rand.NewSource(41))
	for _, p := range somePictures(300) {
		made := p.print(t)
		copies, masks := specked(numbers, made, 3+numbers.Intn(6))
		median, code := impl.MedianPrint(copies)
		wantPrint(t, "MedianPrint", median, code, made, impl.OK)
		best, left, code := impl.BestOfCopies(copies, 0)
		wantPrint(t, "BestOfCopies", best, code, made, impl.OK)
		wantMask(t, "BestOfCopies", left, code, noCells, impl.OK)
		for i, mask := range masks {
			dust, code := impl.DustIn(copies, int64(i), 0)
			wantMask(t, "DustIn", dust, code, mask, impl.OK)
			differs, code := impl.DifferIn(copies[i], made, 0)
			wantMask(t, "DifferIn", differs, code, mask, impl.OK)
			repaired, _, code := impl.RepairCells(copies[i], dust)
			same(t, "RepairCells", code, int64(impl.OK))
			differs, code = impl.DifferIn(repaired, copies[i], 0)
			wantMask(t, "what is repaired", differs&^mask, code, noCells, impl.OK)
		}
	}
}

// TestPromise20Repaired: dust in a part of one density is repaired, so that the print is as it was.
func TestPromise20Repaired(t *testing.T) {
	repairs := 0
	for _, p := range somePictures(300) {
		made := p.print(t)
		for cell := range 64 {
			if slices.ContainsFunc(besideBy(cell), func(other int) bool { return made[other] != made[cell] }) {
				continue
			}
			copies := []impl.Print{made, with(made, cell, (made[cell]+77)%401), made}
			dust, code := impl.DustIn(copies, 1, 76)
			wantMask(t, "DustIn", dust, code, 1<<cell, impl.OK)
			wantRepaired(t, "RepairCells", copies[1], dust, made, 1)
			repairs++
		}
	}
	same(t, "there are such cells", repairs > 1000, true)
}

// TestPromise20Scratched: a negative that is scratched is seen in all prints, where these differ from the one before.
func TestPromise20Scratched(t *testing.T) {
	for i, p := range somePictures(300) {
		n, before, mask := p.negative(t), p.print(t), someMasks(200)[i%300]
		for _, cell := range cellsOf(mask) {
			n[cell] = 0
		}
		behind := must[impl.Print](t, "PrintFrom")(impl.PrintFrom(n, p.paper, one(p.light)))
		differs := must[uint64](t, "DifferIn")(impl.DifferIn(before, behind, 10))
		scratch, code := impl.ScratchIn(before, []impl.Print{behind, behind, behind}, 10)
		wantMask(t, "ScratchIn", scratch, code, differs, impl.OK)
		same(t, "cells that have not been scratched", scratch&^mask, noCells)
		scratch, code = impl.ScratchIn(before, []impl.Print{behind, before}, 0)
		wantMask(t, "a print from before", scratch, code, noCells, impl.OK)
	}
}

// TestPromise20Sheets: of prints with ever more light, the last one is as dark as the darkest frame.
func TestPromise20Sheets(t *testing.T) {
	for _, p := range somePictures(300) {
		s, sums := impl.Sheet{Across: 5}, []int64{}
		for p.light = 0; p.light <= 33; p.light += 3 {
			made, sum := p.print(t), int64(0)
			for _, density := range made {
				sum += int64(density)
			}
			s.Frames, sums = append(s.Frames, made), append(sums, sum)
		}
		last := sums[len(sums)-1]
		frame, sum, code := impl.DarkestFrame(s)
		wantNumbers(t, "DarkestFrame", []int64{frame, sum, code}, int64(slices.Index(sums, last)), last, impl.OK)
		column, row, code := impl.PlaceOf(s, frame)
		same(t, "PlaceOf", code, int64(impl.OK))
		wantNumbers(t, "FrameAt", numbersOf(impl.FrameAt(s, column, row)), frame, impl.OK)
		p.light = 3 * (column + 5*row)
		same(t, "the frame", s.Frames[frame], p.print(t))
	}
}

// TestPromise20Baths: a fresh bath takes as long as the cells are exposed, and one behind a sheet as much longer as it is slower.
func TestPromise20Baths(t *testing.T) {
	for _, p := range somePictures(60) {
		for _, d := range edgeDevelopers() {
			bath := must[impl.Bath](t, "NewBath")(impl.NewBath(d, 5000))
			strength := must[int64](t, "StrengthOf")(impl.StrengthOf(d, bath))
			wantNumbers(t, "SlowerBy", []int64{strength, must[int64](t, "SlowerBy")(impl.SlowerBy(strength))}, impl.Fresh, 0)
			times := must[[64]int64](t, "TimesOn")(impl.TimesOn(one(p.light)))
			wantNumbers(t, "DevelopTime", numbersOf(impl.DevelopTime(d, bath, p.light, int64(d.Base))), times[63], impl.OK)
			wantNumbers(t, "ReplenishFor", numbersOf(impl.ReplenishFor(d, bath, impl.Fresh)), 0, impl.OK)
			behind, code := impl.DevelopSheet(d, bath, 200)
			if code != impl.OK {
				continue
			}
			slower, code := impl.SlowerBy(must[int64](t, "StrengthOf")(impl.StrengthOf(d, behind)))
			if code != impl.OK || p.light+slower > 36 {
				continue
			}
			longer := must[int64](t, "TimeOf")(impl.TimeOf(p.light + slower))
			wantNumbers(t, "DevelopTime behind a sheet", numbersOf(impl.DevelopTime(d, behind, p.light, int64(d.Base))), longer, impl.OK)
			fresh := must[int64](t, "ReplenishFor")(impl.ReplenishFor(d, behind, impl.Fresh))
			behind = must[impl.Bath](t, "Replenish")(impl.Replenish(d, behind, fresh))
			wantNumbers(t, "DevelopTime behind what is replenished", numbersOf(impl.DevelopTime(d, behind, p.light, int64(d.Base))), times[0], impl.OK)
		}
	}
}
