package tests

import (
	"math"
	"reflect"
	"slices"
	"strconv"
	"strings"
	"sync"
	"testing"

	"loop.example/g00899/impl"
)

// stage1Strings returns the results of all functions of chapters 1 and 2 that have strings and numbers as arguments.
func stage1Strings(s, other string, n, m int64) []any {
	hex, isHex := impl.ReadHex(s)
	bytes, isBits := impl.BytesOf(s)
	both, isPair := impl.XorBytes(s, other)
	word, isWord := impl.GetWord(s, n)
	f, fluxCode := impl.FluxOf(s, n)
	turned, isTurned := impl.RotateCells(s, n)
	spliced, spliceCode := impl.SpliceCells(s, n, other)
	read, isRead := impl.ReadFlux(s)
	return []any{
		impl.CodeName(n), impl.IsName(s), impl.HexText(s), hex, isHex, impl.BitsOf(s), bytes, isBits, impl.Crc16(s, n), impl.Sum16(s), both, isPair, impl.PutWord(m), word, isWord,
		impl.ValidCells(s), f, fluxCode, turned, isTurned, spliced, spliceCode, read, isRead,
	}
}

// stage1Fluxes returns the results of all functions of chapter 2 that have flux as an argument.
func stage1Fluxes(f, g impl.Flux, n, m int64) []any {
	turned, turnCode := impl.RotateFlux(f, n)
	scaled, scaleCode := impl.ScaleFlux(f, n, m)
	return []any{impl.ValidFlux(f), impl.SameFlux(f, g), impl.RevolutionOf(f), impl.ChangesOf(f), turned, turnCode, scaled, scaleCode, impl.FluxText(f)}
}

func TestP1StringsAndNumbers(t *testing.T) {
	for _, s := range oddStrings() {
		for _, other := range []string{"", "1", "0110100", s} {
			for i, n := range oddNumbers() {
				m := oddNumbers()[(i+7)%len(oddNumbers())]
				if !reflect.DeepEqual(stage1Strings(s, other, n, m), stage1Strings(s, other, n, m)) {
					t.Errorf("other results for %.20q, %.20q, %d and %d", s, other, n, m)
				}
			}
		}
	}
}

func TestP1Fluxes(t *testing.T) {
	for i, f := range oddFluxes() {
		for _, n := range oddNumbers() {
			for _, m := range oddNumbers() {
				g := oddFluxes()[(i+1)%len(oddFluxes())]
				if !reflect.DeepEqual(stage1Fluxes(f, g, n, m), stage1Fluxes(f, g, n, m)) {
					t.Errorf("other results for flux %d, %d and %d", i, n, m)
				}
			}
		}
		is(t, "flux is unchanged", impl.SameFlux(f, oddFluxes()[i]), true)
	}
}

// roomy returns flux whose gaps have room behind them, and all of that room.
func roomy(f impl.Flux) (impl.Flux, []int64) {
	all := append(append([]int64{}, f.Gaps...), 77, 78, 79, 80)
	return impl.Flux{Cell: f.Cell, First: f.First, Gaps: all[:len(f.Gaps)]}, all
}

func TestP1ArgumentsAndTheirRoomAreUnchanged(t *testing.T) {
	for i, f := range oddFluxes() {
		full, all := roomy(f)
		before := append([]int64{}, all...)
		for _, n := range oddNumbers() {
			stage1Fluxes(full, full, n, 3)
			stage1Fluxes(full, full, 3, n)
		}
		is(t, "gaps of flux "+strconv.Itoa(i), all, before)
	}
}

func TestP1ResultsShareNoMemory(t *testing.T) {
	f, all := roomy(sampleFlux())
	before := append([]int64{}, all...)
	results := func() [][]int64 {
		turned, _ := impl.RotateFlux(f, 0)
		later, _ := impl.RotateFlux(f, 20)
		scaled, _ := impl.ScaleFlux(f, 1, 1)
		read, _ := impl.ReadFlux("10 15 10 20 40")
		made, _ := impl.FluxOf("0110100", 10)
		return [][]int64{turned.Gaps, later.Gaps, scaled.Gaps, read.Gaps, made.Gaps, impl.ChangesOf(f)}
	}
	first, second, want := results(), results(), results()
	for _, list := range first {
		list = list[:cap(list)]
		for i := range list {
			list[i] = -5
		}
	}
	is(t, "argument", all, before)
	is(t, "other results", second, want)
}

func TestP1NilAndEmptyAreAlike(t *testing.T) {
	empty, none := impl.Flux{Cell: 10, Gaps: []int64{}}, impl.Flux{Cell: 10}
	for _, n := range oddNumbers() {
		is(t, "results", stage1Fluxes(empty, none, n, 1), stage1Fluxes(none, empty, n, 1))
	}
}

func TestP1ErrorsComeAlone(t *testing.T) {
	zero := func(what string, failed bool, results ...any) {
		t.Helper()
		for _, r := range results {
			f, isFlux := r.(impl.Flux)
			if failed && !(isFlux && impl.SameFlux(f, impl.Flux{})) && !reflect.ValueOf(r).IsZero() {
				t.Errorf("%s: result with an error: %s", what, brief(r))
			}
		}
	}
	for _, s := range oddStrings() {
		for _, n := range oddNumbers() {
			r := stage1Strings(s, "011", n, n)
			zero("ReadHex", r[4] == false, r[3])
			zero("BytesOf", r[7] == false, r[6])
			zero("XorBytes", r[11] == false, r[10])
			zero("GetWord", r[14] == false, r[13])
			zero("FluxOf", r[17] != int64(impl.OK), r[16])
			zero("RotateCells", r[19] == false, r[18])
			zero("SpliceCells", r[21] != int64(impl.OK), r[20])
			zero("ReadFlux", r[23] == false, r[22])
		}
	}
	for _, f := range oddFluxes() {
		for _, n := range oddNumbers() {
			r := stage1Fluxes(f, f, n, 1)
			zero("RotateFlux", r[5] != int64(impl.OK), r[4])
			zero("ScaleFlux", r[7] != int64(impl.OK), r[6])
		}
	}
}

func oddClocks() []impl.Clock {
	return append(invalidClocks(), sampleClock(), plain(10), impl.Clock{Cell: 4, Low: 2, High: 400, Phase: 64, Speed: 64}, impl.Clock{Cell: 4, Low: 2, High: 400, Phase: 1, Speed: 1}, impl.Clock{Cell: 200, Low: 200, High: 400, Speed: 64})
}

// oddLists are arguments for lists of jitter, of drops and of times.
func oddLists() [][]int64 {
	list := [][]int64{nil, {}, {0}, {2, -1}, {0, 1}, {0, 1, 2}, {5, 15, 25}, {5, 5}, upTo(impl.MaxGaps), upTo(impl.MaxGaps + 1)}
	return append(append(list, invalidJitters()...), invalidDrops()...)
}

func oddSpans() []impl.Span {
	return append(invalidSpans(), impl.Span{}, impl.Span{From: 10, To: 30, Times: []int64{12, 20}}, impl.Span{From: 0, To: impl.MaxTicks, Times: upTo(impl.MaxGaps + 1)})
}

// stage2Clocks returns the results of all functions of chapter 3.
func stage2Clocks(f impl.Flux, c impl.Clock, x impl.Locked, n int64) []any {
	made, madeCode := impl.PlainClock(n)
	start, startCode := impl.StartClock(c)
	cells, next, stepCode := impl.StepClock(c, x, n)
	track, trackCode := impl.RecoverCells(f, c)
	errors, errorsCode := impl.ClockErrors(f, c)
	cell, cellCode := impl.GuessCell(f)
	counts, countsCode := impl.GapCounts(f, c)
	return []any{impl.ValidClock(c), made, madeCode, start, startCode, cells, stepCode, next, stepCode, track, trackCode, errors, errorsCode, cell, cellCode, counts, countsCode}
}

// stage2Noises returns the results of all functions of chapter 4.
func stage2Noises(f, g impl.Flux, list []int64, w impl.Span, n, m int64) []any {
	noise := impl.Noise{Drift: n, Jitter: list, Drops: list, Weak: []impl.Span{w, w}}
	made, madeCode := impl.FluxOfTimes(list, n, m)
	faster, driftCode := impl.AddDrift(f, n)
	moved, jitterCode := impl.AddJitter(f, list)
	fewer, dropCode := impl.DropChanges(f, list)
	weak, weakCode := impl.WeakenFlux(f, w)
	all, noiseCode := impl.AddNoise(f, noise)
	only, onlyCode := impl.AddNoise(f, impl.Noise{Weak: noise.Weak[:1]})
	most, isMost := impl.JitterBetween(f, g)
	return []any{impl.ValidNoise(noise), impl.CommonChanges(f, g), isMost, most, made, madeCode, faster, driftCode, moved, jitterCode, fewer, dropCode, weak, weakCode, all, noiseCode, only, onlyCode}
}

// nothing requires that results are zero values if the code behind them is not OK.
func nothing(t *testing.T, what string, pairs ...any) {
	t.Helper()
	for i := 0; i < len(pairs); i += 2 {
		if pairs[i+1] == int64(impl.OK) {
			continue
		}
		f, isFlux := pairs[i].(impl.Flux)
		list, isList := pairs[i].([]int64)
		if isFlux && impl.SameFlux(f, impl.Flux{}) || isList && len(list) == 0 {
			continue
		}
		if isFlux || isList || !reflect.ValueOf(pairs[i]).IsZero() {
			t.Errorf("%s %d: result with an error: %s", what, i, brief(pairs[i]))
		}
	}
}

func TestP1Clocks(t *testing.T) {
	numbers := oddNumbers()
	for i, f := range oddFluxes() {
		for _, c := range oddClocks() {
			for j, n := range numbers {
				x := impl.Locked{Period: numbers[(j+11)%len(numbers)], Offset: n}
				if j%2 == 0 {
					x.Period = c.Cell * impl.Unit
				}
				for _, g := range []impl.Flux{f, {Cell: n, First: n, Gaps: []int64{n, 7, n}}} {
					got := stage2Clocks(g, c, x, n)
					if !reflect.DeepEqual(got, stage2Clocks(g, c, x, n)) {
						t.Errorf("other results for flux %s, clock %v, state %v and %d", brief(g), c, x, n)
					}
					nothing(t, "chapter 3", got[1:]...)
				}
			}
		}
		is(t, "flux is unchanged", impl.SameFlux(f, oddFluxes()[i]), true)
	}
}

func TestP1Noises(t *testing.T) {
	for i, f := range oddFluxes() {
		g := oddFluxes()[(i+1)%len(oddFluxes())]
		for j, list := range oddLists() {
			for k, w := range oddSpans() {
				n, m := oddNumbers()[(j+k)%len(oddNumbers())], oddNumbers()[(j*k)%len(oddNumbers())]
				got := stage2Noises(f, g, list, w, n, m)
				if !reflect.DeepEqual(got, stage2Noises(f, g, list, w, n, m)) {
					t.Errorf("other results for flux %d, list %d and span %d", i, j, k)
				}
				nothing(t, "chapter 4", got[4:]...)
				is(t, "jitter of nothing", got[2] == false && got[3] != int64(0), false)
			}
		}
		is(t, "flux is unchanged", impl.SameFlux(f, oddFluxes()[i]), true)
	}
}

// roomyList returns a list with room behind it, and all of that room.
func roomyList(list []int64) ([]int64, []int64) {
	all := append(append([]int64{}, list...), 77, 78, 79, 80)
	return all[:len(list)], all
}

func TestP1NoiseLeavesItsArguments(t *testing.T) {
	for _, f := range oddFluxes() {
		full, gaps := roomy(f)
		before := slices.Clone(gaps)
		for _, list := range oddLists() {
			short, all := roomyList(list)
			for _, w := range oddSpans() {
				times, room := roomyList(w.Times)
				stage2Noises(full, full, short, impl.Span{From: w.From, To: w.To, Times: times}, 40, 10)
				is(t, "times of the span", room, append(slices.Clone(w.Times), 77, 78, 79, 80))
			}
			is(t, "list", all, append(slices.Clone(list), 77, 78, 79, 80))
		}
		for _, c := range oddClocks() {
			stage2Clocks(full, c, impl.Locked{Period: 640}, 23)
		}
		is(t, "gaps", gaps, before)
	}
}

func TestP1ResultsOfClocksAndNoiseShareNoMemory(t *testing.T) {
	f, gaps := roomy(sampleFlux())
	times, room := roomyList([]int64{15, 25, 45})
	before, beforeRoom := slices.Clone(gaps), slices.Clone(room)
	results := func() [][]int64 {
		made, _ := impl.FluxOfTimes(times, 70, 10)
		same, _ := impl.AddDrift(f, 0)
		moved, _ := impl.AddJitter(f, nil)
		all, _ := impl.DropChanges(f, nil)
		fewer, _ := impl.DropChanges(f, []int64{1})
		still, _ := impl.WeakenFlux(f, impl.Span{})
		weak, _ := impl.WeakenFlux(f, impl.Span{From: 0, To: 70, Times: times})
		calm, _ := impl.AddNoise(f, impl.Noise{})
		errors, _ := impl.ClockErrors(f, plain(10))
		counts, _ := impl.GapCounts(f, plain(10))
		return [][]int64{made.Gaps, same.Gaps, moved.Gaps, all.Gaps, fewer.Gaps, still.Gaps, weak.Gaps, calm.Gaps, errors, counts}
	}
	first, second, want := results(), results(), results()
	for _, list := range first {
		list = list[:cap(list)]
		for i := range list {
			list[i] = -5
		}
	}
	is(t, "gaps", gaps, before)
	is(t, "times", room, beforeRoom)
	is(t, "other results", second, want)
}

func TestP1NilAndEmptyNoiseAreAlike(t *testing.T) {
	full := impl.Noise{Jitter: []int64{}, Drops: []int64{}, Weak: []impl.Span{{From: 3, To: 4, Times: []int64{}}}}
	none := impl.Noise{Weak: []impl.Span{{From: 3, To: 4}}}
	for _, f := range oddFluxes() {
		got, gotCode := impl.AddNoise(f, full)
		want, wantCode := impl.AddNoise(f, none)
		is(t, "noise", []any{gotCode, impl.SameFlux(got, want)}, []any{wantCode, true})
	}
}

func TestP1CallsAtTheSameTime(t *testing.T) {
	var wait sync.WaitGroup
	got := make([]string, 8)
	long := strings.Repeat("a", impl.MaxBytes+1)
	for i := range got {
		wait.Go(func() {
			var out strings.Builder
			for start := range int64(50) {
				out.WriteString(strconv.FormatInt(impl.Crc16(long, start), 16))
				out.WriteString(strconv.FormatInt(impl.Crc16("123456789", start), 16))
			}
			got[i] = out.String()
		})
	}
	wait.Wait()
	for _, s := range got {
		is(t, "check values", s, got[0])
	}
}

// stage3Codes returns the results of all functions of chapters 5 and 6.
func stage3Codes(s, other string, n int64, last, mfm bool) []any {
	fm, isFm := impl.DecodeFm(s)
	bytes, isMfm := impl.DecodeMfm(s)
	mark, isMark := impl.FmMarkOf(s)
	groups, isCoded := impl.EncodeGcr(s)
	back, isGcr := impl.DecodeGcr(s)
	repaired, doubtful, isRepaired := impl.RepairGcr(s)
	return []any{
		isFm, fm, isMfm, bytes, isMark, mark, isCoded, groups, isGcr, back, isRepaired, repaired, isRepaired, doubtful,
		impl.EncodeFm(s), impl.FmMark(n), impl.EncodeMfm(s, last), impl.MfmMark(), impl.LastBit(s), impl.ClockFaults(s, last, mfm), impl.RunsOf(s),
		impl.GcrCode(n), impl.GcrValue(s), impl.GcrFaults(s), impl.GcrDistance(s, other), impl.NearestGcr(s), impl.LongestOnes(s),
	}
}

// codedStrings are arguments that some functions of chapters 5 and 6 accept, and oddStrings.
func codedStrings() []string {
	from := source(70)
	list := append(oddStrings(), noCells()...)
	list = append(list, noGroups()...)
	return append(append(list, allGroups()...), impl.MfmMark(), impl.FmMark(254), impl.EncodeFm("a1"), impl.EncodeMfm(from.bytes(maxClocked), true), from.cells(impl.MaxCells, 2), from.cells(160, 3), from.bytes(maxClocked), from.bytes(maxGrouped), from.bytes(maxGrouped+1))
}

func TestP1Codes(t *testing.T) {
	for i, s := range codedStrings() {
		for j, other := range []string{"", "01010", s} {
			for k := range 4 {
				n, last, mfm := oddNumbers()[(i+4*j+k)%len(oddNumbers())], k%2 == 0, k < 2
				got := stage3Codes(s, other, n, last, mfm)
				if !reflect.DeepEqual(got, stage3Codes(s, other, n, last, mfm)) {
					t.Errorf("other results for %.40q, %.40q, %d, %v and %v", s, other, n, last, mfm)
				}
				for at := 0; at < 14; at += 2 {
					if got[at] == false && !reflect.ValueOf(got[at+1]).IsZero() {
						t.Errorf("%.40q, result %d with false: %s", s, at, brief(got[at+1]))
					}
				}
			}
		}
	}
}

func TestP1NumbersOfCodes(t *testing.T) {
	for _, n := range oddNumbers() {
		is(t, "mark", len(impl.FmMark(n)), map[bool]int{true: 16}[n >= 0 && n < 256])
		is(t, "group", len(impl.GcrCode(n)), map[bool]int{true: 5}[n >= 0 && n < 16])
	}
}

func TestP1ResultsOfCodesShareNoMemory(t *testing.T) {
	cells := "0001000010010100111000010"
	results := func() [][]int64 {
		_, doubtful, _ := impl.RepairGcr(cells)
		return [][]int64{impl.ClockFaults(cells+"0", true, true), impl.ClockFaults(cells+"0", false, false), impl.RunsOf(cells), impl.GcrFaults(cells), impl.NearestGcr("00010"), impl.NearestGcr("00000"), doubtful}
	}
	first, second, want := results(), results(), results()
	for i, list := range first {
		is(t, "some results "+strconv.Itoa(i), len(list) > 0, true)
		list = list[:cap(list)]
		for j := range list {
			list[j] = -5
		}
	}
	is(t, "other results", second, want)
	is(t, "later results", results(), want)
}

func TestP1CodesAtTheSameTime(t *testing.T) {
	var wait sync.WaitGroup
	got := make([]string, 8)
	for i := range got {
		wait.Go(func() {
			from := source(71)
			for range 20 {
				s := from.bytes(maxClocked)
				groups, _ := impl.EncodeGcr(s)
				got[i] += impl.EncodeMfm(s, true) + impl.EncodeFm(s) + groups
			}
		})
	}
	wait.Wait()
	for _, s := range got {
		is(t, "cells", s == got[0], true)
	}
}

// stage4Cells returns the results of all functions of chapter 7 that have strings and numbers as arguments.
func stage4Cells(s, other string, n, m, k int64) []any {
	part, isPart := impl.SliceCells(s, n, m)
	mark, isMark := impl.MarkCells(n, m)
	list, listCode := impl.FindMarks(s, n)
	third, thirdCode := impl.FindMarks(s, k)
	return []any{isPart, part, isMark, mark, listCode, list, thirdCode, third, impl.FindPattern(s, other), impl.SyncRuns(s), impl.MarkByte(n, m), impl.CellsBetween(n, m, k), impl.CellsBetween(impl.MaxCells, m, k)}
}

// stage4Tracks returns the results of all functions of chapter 8, and of those of chapter 7 that have marks as an argument.
func stage4Tracks(t, u impl.TrackSpec, list []impl.Mark, s string, n, m int64) []any {
	one := impl.SectorSpec{Cylinder: m, Head: m, Number: m, Size: m, Data: s, Deleted: m%2 == 0}
	if len(t.Sectors) > 0 {
		one = t.Sectors[0]
	}
	cells, isCells := impl.EncodeBytes(n, s, m%2 == 0)
	id, isId := impl.IdField(n, one)
	data, isData := impl.DataField(n, one)
	track, trackCode := impl.BuildTrack(t)
	order, isOrder := impl.Interleave(n, m)
	next, isNext := impl.NextMark(list, n)
	return []any{isCells, cells, isId, id, isData, data, trackCode, track, isOrder, order, isNext, next, impl.ValidSectorSpec(one), impl.ValidTrackSpec(t), impl.SameTrackSpec(t, u), impl.SectorCells(n, m), impl.TrackCells(t), impl.ValidMarks(list, n)}
}

// alone requires that results are zero values, or nil or empty lists, if what is before them is false or an error.
func alone(t *testing.T, what string, pairs ...any) {
	t.Helper()
	for i := 0; i < len(pairs); i += 2 {
		if pairs[i] == true || pairs[i] == int64(impl.OK) {
			continue
		}
		v := reflect.ValueOf(pairs[i+1])
		if v.Kind() == reflect.Slice && v.Len() > 0 || v.Kind() != reflect.Slice && !v.IsZero() {
			t.Errorf("%s, result %d with an error: %s", what, i, brief(pairs[i+1]))
		}
	}
}

// oddTracks are some valid tracks, and invalid ones.
func oddTracks() []impl.TrackSpec {
	from := source(110)
	list := append(invalidTracks(), sampleTrack(), from.sized(impl.TfMfm, 20, 2, 2, 2, 2, 2, 2, 2, 2))
	for _, format := range formats() {
		list = append(list, impl.TrackSpec{Format: format, Gap: 3}, from.track(format, 3), from.sized(format, 20, 0, 0, 1, 2, 2, 2, 2, 2))
	}
	return list
}

// oddMarks are valid and invalid lists of marks.
func oddMarks() [][]impl.Mark {
	const most = math.MaxInt64
	return [][]impl.Mark{nil, {}, {{Kind: 1, At: 5, Body: 9}}, {{Kind: 1, At: 5, Body: 9}, {Kind: 3, At: 30, Body: 2}}, {{}, {}}, {{Kind: most, At: most, Body: most}}, {{Kind: 1, At: most}, {Kind: 1, At: math.MinInt64}}, {{Kind: -1, At: -1, Body: -1}}, make([]impl.Mark, impl.MaxMarks+1)}
}

func TestP1CellsAndMarks(t *testing.T) {
	list := append(codedStrings(), marked(impl.TfFm, 1, 2), marked(impl.TfMfm, 1, 3), marked(impl.TfGcr, 1, 2), strings.Repeat(marked(impl.TfGcr, 1), impl.MaxMarks+1))
	for i, s := range list {
		for j, other := range []string{"", "1", "0101", s} {
			for k, n := range append(formats(), oddNumbers()...) {
				m, third := oddNumbers()[(i+j+k)%len(oddNumbers())], formats()[(i+j+k)%3]
				if j > 0 && (i+k)%8 > 0 {
					continue
				}
				got := stage4Cells(s, other, n, m, third)
				if !reflect.DeepEqual(got, stage4Cells(s, other, n, m, third)) {
					t.Errorf("other results for %.40q, %.40q, %d, %d and %d", s, other, n, m, third)
				}
				alone(t, "chapter 7", got[:8]...)
			}
		}
	}
	for _, n := range oddNumbers() {
		for _, m := range oddNumbers() {
			for _, k := range oddNumbers() {
				steps := []int64{impl.CellsBetween(n, m, k), impl.CellsBetween(100, m, k)}
				is(t, "cells between", []bool{steps[0] >= 0 && steps[0] < impl.MaxCells, steps[1] >= 0 && steps[1] < 100}, []bool{true, true})
			}
		}
	}
}

func TestP1Tracks(t *testing.T) {
	tracks, texts, numbers := oddTracks(), oddStrings(), oddNumbers()
	for i, spec := range tracks {
		for j, list := range oddMarks() {
			for k, n := range append(formats(), numbers...) {
				if (i+j+k)%4 > 0 {
					continue
				}
				m, s, other := numbers[(i+j+k)%len(numbers)], texts[(i+j*3+k)%len(texts)], tracks[(i+1)%len(tracks)]
				got := stage4Tracks(spec, other, list, s, n, m)
				if !reflect.DeepEqual(got, stage4Tracks(spec, other, list, s, n, m)) {
					t.Errorf("other results for track %d, marks %d, %.40q, %d and %d", i, j, s, n, m)
				}
				alone(t, "chapter 8", got[:12]...)
			}
		}
	}
}

func TestP1TracksAndMarksAreUnchanged(t *testing.T) {
	extra := impl.SectorSpec{Cylinder: 77, Data: "room"}
	for i, spec := range oddTracks() {
		all := append(slices.Clone(spec.Sectors), extra, extra, extra)
		before := slices.Clone(all)
		full := impl.TrackSpec{Format: spec.Format, Gap: spec.Gap, Sectors: all[:len(spec.Sectors)]}
		for j, list := range oddMarks() {
			marks := append(slices.Clone(list), impl.Mark{Kind: 77}, impl.Mark{Kind: 78})
			beforeMarks := slices.Clone(marks)
			stage4Tracks(full, full, marks[:len(list)], "a", 2, 3)
			is(t, "marks "+strconv.Itoa(j), marks, beforeMarks)
		}
		is(t, "sectors of track "+strconv.Itoa(i), all, before)
	}
}

func TestP1ResultsOfTracksShareNoMemory(t *testing.T) {
	cells := marked(impl.TfGcr, 1, 2, 3) + strings.Repeat("1", 20) + "0"
	marks := func() [][]impl.Mark {
		gcr, _ := impl.FindMarks(cells, impl.TfGcr)
		fm, _ := impl.FindMarks(marked(impl.TfFm, 1, 2), impl.TfFm)
		return [][]impl.Mark{gcr, fm}
	}
	numbers := func() [][]int64 {
		order, _ := impl.Interleave(5, 2)
		return [][]int64{order, impl.FindPattern(cells, "01")}
	}
	runs := func() []impl.CellRun { return impl.SyncRuns(cells) }
	firstMarks, firstNumbers, firstRuns := marks(), numbers(), runs()
	wantMarks, wantNumbers, wantRuns := marks(), numbers(), runs()
	for i := range firstMarks {
		is(t, "some results", []bool{len(firstMarks[i]) > 0, len(firstNumbers[i]) > 0, len(firstRuns) > 0}, []bool{true, true, true})
		clear(firstMarks[i][:cap(firstMarks[i])])
		clear(firstNumbers[i][:cap(firstNumbers[i])])
	}
	clear(firstRuns[:cap(firstRuns)])
	is(t, "later results", []any{marks(), numbers(), runs()}, []any{wantMarks, wantNumbers, wantRuns})
}

func TestP1NilAndEmptyTracksAreAlike(t *testing.T) {
	for _, n := range append(formats(), oddNumbers()...) {
		none, empty := impl.TrackSpec{Format: n, Gap: 2}, impl.TrackSpec{Format: n, Gap: 2, Sectors: []impl.SectorSpec{}}
		is(t, "results", stage4Tracks(none, empty, nil, "a", n, 1), stage4Tracks(empty, none, []impl.Mark{}, "a", n, 1))
	}
}

func TestP1TracksAtTheSameTime(t *testing.T) {
	var wait sync.WaitGroup
	got := make([]string, 8)
	for i := range got {
		wait.Go(func() {
			from := source(111)
			for range 10 {
				for _, format := range formats() {
					cells, _ := impl.BuildTrack(from.track(format, 3))
					list, _ := impl.FindMarks(cells, format)
					got[i] += cells + brief(list)
				}
			}
		})
	}
	wait.Wait()
	for _, s := range got {
		is(t, "cells and marks", s == got[0], true)
	}
}

// stage5Tracks returns the results of all functions of chapter 9 that have cells as an argument, and of FoundText and ValidFound.
func stage5Tracks(s string, list []impl.Mark, f impl.Found, format, n, k int64) []any {
	m := impl.Mark{Kind: k, At: n, Body: k}
	if len(list) > 0 {
		m = list[0]
	}
	bytes, whole := impl.RawBytes(format, s)
	field, right, fieldCode := impl.FieldAt(s, format, m, n)
	next, isNext := impl.DataMarkOf(s, format, list, k)
	one, oneCode := impl.ReadSector(s, format, list, k)
	all, allCode := impl.ReadTrack(s, format)
	return []any{fieldCode, field, fieldCode, right, isNext, next, oneCode, one, allCode, all, bytes, whole, impl.ValidFound(f), impl.FoundText(f)}
}

// stage5Sectors returns the results of all functions of chapters 9 and 10 that have lists of sectors as an argument.
func stage5Sectors(list, other []impl.Found, voted, election []impl.Voted, n, m int64) []any {
	best, isBest := impl.BestFound(list, n, m, m)
	specs, specsCode := impl.SpecsOf(list)
	merged, mergedCode := impl.MergeFound([][]impl.Found{list, other, list})
	one, oneCode := impl.MergeFound([][]impl.Found{other})
	texts := []string{}
	for _, v := range voted {
		texts = append(texts, impl.VotedText(v), strconv.FormatBool(impl.ValidVoted(v)))
	}
	return []any{isBest, best, specsCode, specs, mergedCode, merged, oneCode, one, impl.SameFound(list, other), impl.SameVoted(voted, election), texts}
}

// stage5Revolutions returns the results of all functions of chapter 10 that have strings as an argument.
func stage5Revolutions(list []string, format, within int64) []any {
	most, mostCode := impl.MajorityCells(list)
	weak, weakCode := impl.WeakCells(list)
	aligned, alignedCode := impl.AlignRevolutions(list, within)
	bytes, places, ok := impl.VoteBytes(list)
	read, readCode := impl.ReadRevolutions(list, format)
	shift, count, shiftCode := int64(0), int64(0), int64(impl.ErrInvalid)
	if len(list) > 1 {
		shift, count, shiftCode = impl.BestShift(list[0], list[1], within)
	}
	return []any{mostCode, most, weakCode, weak, alignedCode, aligned, ok, bytes, ok, places, readCode, read, shiftCode, shift, shiftCode, count, impl.ValidRevolutions(list)}
}

// oddFound are valid and invalid lists of sectors.
func oddFound() [][]impl.Found {
	return [][]impl.Found{nil, {}, states(0), states(2), states(1)[:4], {goodSector()}, {goodData("AAAAAAAA"), goodData("AABAAAAA"), badData("xxxxxxxx")}, invalidFound()[:5], invalidFound(), slices.Repeat([]impl.Found{goodSector()}, impl.MaxMarks), make([]impl.Found, impl.MaxMarks+1)}
}

func oddVoted() [][]impl.Voted {
	return [][]impl.Voted{nil, {}, elected(0), elected(2), {weakSector()}, invalidVoted(), make([]impl.Voted, 100)}
}

// oddRevolutions are valid and invalid lists of revolutions.
func oddRevolutions() [][]string {
	list := noRevolutions()
	for _, s := range oddStrings() {
		list = append(list, []string{s}, []string{s, s}, []string{s, "01", s})
	}
	for _, format := range formats() {
		cells := marked(format, impl.MkId, impl.MkData, impl.MkId)
		list = append(list, []string{cells, turned(cells, 9), otherCells(cells, 30)}, []string{cells, cells[1:]})
	}
	return append(list, []string{"0110", "0011", "0010"}, []string{strings.Repeat("10", 200), strings.Repeat("01", 200)})
}

func TestP1Sectors(t *testing.T) {
	numbers, marks, found := oddNumbers(), oddMarks(), invalidFound()
	list := append(oddStrings(), encoded(impl.TfFm, plainField(impl.TfFm, impl.MkId, "abcd", false)))
	for _, format := range formats() {
		cells := marked(format, impl.MkId, impl.MkData, impl.MkId)
		read, _ := impl.FindMarks(cells, format)
		list, marks = append(list, cells, turned(cells, 9), strings.Repeat(cells, 30)), append(marks, read)
	}
	for i, s := range list {
		for j, m := range marks {
			for k, n := range append(formats(), numbers...) {
				format, index := formats()[(i+k)%3], int64(k%4)
				if k%5 == 0 {
					format, index = n, n
				}
				f := found[(i+j+k)%len(found)]
				got := stage5Tracks(s, m, f, format, n, index)
				if !reflect.DeepEqual(got, stage5Tracks(s, m, f, format, n, index)) {
					t.Errorf("other results for %.40q, marks %d, %d, %d and %d", s, j, format, n, index)
				}
				alone(t, "chapter 9", got[:10]...)
			}
		}
	}
}

func TestP1ListsOfSectors(t *testing.T) {
	for i, list := range oddFound() {
		for j, other := range oddFound() {
			for k, voted := range oddVoted() {
				n, m := oddNumbers()[(i+j+k)%len(oddNumbers())], oddNumbers()[(i*j+k)%len(oddNumbers())]
				got := stage5Sectors(list, other, voted, oddVoted()[(i+j)%len(oddVoted())], n, m)
				if !reflect.DeepEqual(got, stage5Sectors(list, other, voted, oddVoted()[(i+j)%len(oddVoted())], n, m)) {
					t.Errorf("other results for lists %d and %d, and %d", i, j, k)
				}
				alone(t, "lists", got[:8]...)
			}
		}
	}
}

func TestP1ManyRevolutions(t *testing.T) {
	for i, list := range oddRevolutions() {
		for j, n := range append([]int64{0, 3, 40, 41}, oddNumbers()...) {
			format := formats()[(i+j)%3]
			if j%6 == 0 {
				format = n
			}
			if j > 3 && (i+j)%3 > 0 {
				continue
			}
			got := stage5Revolutions(list, format, n)
			if !reflect.DeepEqual(got, stage5Revolutions(list, format, n)) {
				t.Errorf("other results for revolutions %d, %d and %d", i, format, n)
			}
			alone(t, "chapter 10", got[:16]...)
		}
	}
}

// filled returns a list with room behind it, and all of that room.
func filled[T any](list []T, extra T) ([]T, []T) {
	all := append(append([]T{}, list...), extra, extra, extra)
	return all[:len(list)], all
}

func TestP1SectorsAreUnchanged(t *testing.T) {
	extra := impl.Found{Cylinder: 77, Data: "room"}
	for i, list := range oddFound() {
		short, all := filled(list, extra)
		before := slices.Clone(all)
		for _, voted := range oddVoted() {
			stage5Sectors(short, short, voted, voted, 3, 1)
			stage5Sectors(nil, short, voted, nil, 3, 1)
		}
		is(t, "sectors "+strconv.Itoa(i), all, before)
	}
	for i, list := range oddVoted() {
		short, all := filled(list, impl.Voted{Cylinder: 77})
		rooms := [][]int64{}
		for j := range short {
			var room []int64
			short[j].Weak, room = roomyList(short[j].Weak)
			rooms = append(rooms, room)
		}
		stage5Sectors(nil, nil, short, short, 3, 1)
		want, _ := filled(list, impl.Voted{Cylinder: 77})
		is(t, "voted "+strconv.Itoa(i), []any{impl.SameVoted(all[:len(list)], want), all[len(list)].Cylinder}, []any{true, int64(77)})
		for j, room := range rooms {
			is(t, "weak bytes", room, append(slices.Clone(list[j].Weak), 77, 78, 79, 80))
		}
	}
	for i, list := range oddMarks() {
		short, all := filled(list, impl.Mark{Kind: 77})
		before := slices.Clone(all)
		stage5Tracks(marked(impl.TfMfm, 1, 2), short, goodSector(), impl.TfMfm, 4, 0)
		is(t, "marks "+strconv.Itoa(i), all, before)
	}
	for i, list := range oddRevolutions() {
		short, all := filled(list, "room")
		before := slices.Clone(all)
		stage5Revolutions(short, impl.TfGcr, 9)
		is(t, "revolutions "+strconv.Itoa(i), all, before)
	}
}

func TestP1ResultsOfRevolutionsShareNoMemory(t *testing.T) {
	list := []string{"0110", "0011", "0010"}
	sectors := []impl.Found{goodData("AAAAAAAA"), goodData("AABAAAAA"), goodSector()}
	sectors[2].Number = 9
	other := badData("xxxxxxxx")
	other.Number = 5
	lists := [][]impl.Found{sectors, {other}, {{Cylinder: 3, Head: 1, Number: 5, Data: "xxxxxxyx", State: impl.StBadData}}}
	before := slices.Clone(sectors)
	cells := marked(impl.TfMfm, impl.MkId, impl.MkData)
	results := func() ([][]int64, []string, []impl.Found, []impl.SectorSpec, []impl.Voted, []impl.Voted) {
		weak, _ := impl.WeakCells(list)
		_, places, _ := impl.VoteBytes(list)
		aligned, _ := impl.AlignRevolutions(list, 2)
		found, _ := impl.ReadTrack(cells, impl.TfMfm)
		specs, _ := impl.SpecsOf(sectors)
		merged, _ := impl.MergeFound(lists)
		read, _ := impl.ReadRevolutions([]string{built(t, sampleTrack())}, impl.TfMfm)
		numbers := [][]int64{weak, places}
		for _, v := range merged {
			numbers = append(numbers, v.Weak)
		}
		return numbers, aligned, found, specs, merged, read
	}
	a, b, c, d, e, f := results()
	wantA, wantB, wantC, wantD, wantE, wantF := results()
	is(t, "some results", []int{len(a), len(a[0]), len(a[1]), len(a[2]), len(b), len(c), len(d), len(e), len(f)}, []int{5, 2, 2, 1, 3, 1, 3, 3, 2})
	for _, numbers := range a {
		clear(numbers[:cap(numbers)])
	}
	is(t, "weak bytes of other sectors", [][]int64{wantE[0].Weak, wantE[1].Weak}, [][]int64{{2}, {6}})
	clear(b[:cap(b)])
	clear(c[:cap(c)])
	clear(d[:cap(d)])
	clear(e[:cap(e)])
	clear(f[:cap(f)])
	is(t, "arguments", sectors, before)
	againA, againB, againC, againD, againE, againF := results()
	is(t, "later results", []any{againA, againB, againC, againD, againE, againF}, []any{wantA, wantB, wantC, wantD, wantE, wantF})
}

func TestP1NilAndEmptySectorsAreAlike(t *testing.T) {
	is(t, "sectors", stage5Sectors(nil, nil, nil, nil, 0, 0), stage5Sectors([]impl.Found{}, []impl.Found{}, []impl.Voted{}, []impl.Voted{}, 0, 0))
	is(t, "revolutions", stage5Revolutions(nil, impl.TfFm, 0), stage5Revolutions([]string{}, impl.TfFm, 0))
	is(t, "marks", stage5Tracks("0110", nil, goodSector(), impl.TfFm, 0, 0), stage5Tracks("0110", []impl.Mark{}, goodSector(), impl.TfFm, 0, 0))
	none, empty := impl.Voted{Data: "ABCDEFGH", State: impl.StGood, Votes: 1}, impl.Voted{Data: "ABCDEFGH", State: impl.StGood, Votes: 1, Weak: []int64{}}
	is(t, "weak bytes", []any{impl.ValidVoted(none), impl.VotedText(none)}, []any{impl.ValidVoted(empty), impl.VotedText(empty)})
	merged, c := impl.MergeFound([][]impl.Found{nil, {goodSector()}})
	again, d := impl.MergeFound([][]impl.Found{{}, {goodSector()}})
	is(t, "lists", []any{merged, c}, []any{again, d})
}

func TestP1RevolutionsAtTheSameTime(t *testing.T) {
	var wait sync.WaitGroup
	got := make([]string, 8)
	for i := range got {
		wait.Go(func() {
			from := source(150)
			for range 10 {
				for _, format := range formats() {
					cells, _ := impl.BuildTrack(from.track(format, 3))
					list, _ := impl.ReadRevolutions([]string{cells, otherCells(cells, 99), turned(cells, 50)}, format)
					for _, v := range list {
						got[i] += impl.VotedText(v)
					}
				}
			}
		})
	}
	wait.Wait()
	for _, s := range got {
		is(t, "sectors", s == got[0] && s != "", true)
	}
}

// stage6Features returns the results of all functions of chapter 11.
func stage6Features(list []impl.Found, voted []impl.Voted, spec impl.TrackSpec, f impl.Feature, s string, numbers [4]int64) []any {
	format, cylinder, head, nominal := numbers[0], numbers[1], numbers[2], numbers[3]
	read, isRead := impl.ReadFeature(s)
	found, foundCode := impl.SectorFeatures(list, cylinder, head)
	long, isLong := impl.LongFeature(s, nominal)
	weak, weakCode := impl.WeakFeatures(voted)
	all, allCode := impl.TrackFeatures(s, format, cylinder, head, nominal)
	more, moreCode := impl.ProtectTrack(spec, f)
	plain, plainCode := impl.PlainTrack(spec, cylinder, head)
	described, describedCode := impl.SpecFeatures(spec, cylinder, head)
	return []any{isRead, read, foundCode, found, isLong, long, weakCode, weak, allCode, all, moreCode, more, plainCode, plain, describedCode, described, impl.ValidFeature(f), impl.FeatureText(f)}
}

// stage6Discs returns the results of all functions of chapter 12.
func stage6Discs(d, e impl.Disc, list []impl.Found, s impl.Sector, numbers [4]int64) []any {
	a, b, m, n := numbers[0], numbers[1], numbers[2], numbers[3]
	empty, emptyCode := impl.NewDisc(a, b, m, n)
	one, oneCode := impl.SectorAt(d, a, b, m)
	put, putCode := impl.PutSector(d, a, s)
	spec, specCode := impl.TrackOf(d, b)
	filled, filledCode := impl.FillTrack(d, b, list)
	changed, changedCode := impl.ChangedSectors(d, e)
	made, madeCode := impl.DiscOfData(a, b, m, n, s.Data)
	return []any{emptyCode, empty, oneCode, one, putCode, put, specCode, spec, filledCode, filled, changedCode, changed, madeCode, made, impl.ValidDisc(d), impl.SameDisc(d, e), impl.SectorBytes(n), impl.StatesOf(d), impl.DataOf(d)}
}

// oddDiscs are some valid discs, and some invalid ones.
func oddDiscs() []impl.Disc {
	from := source(200)
	list := []impl.Disc{sampleDisc(), from.disc(1, 1, 1, 0), from.disc(8, 2, 8, 2), from.disc(2, 1, 3, 1)}
	for i, d := range invalidDiscs() {
		if i%7 == 0 {
			list = append(list, d)
		}
	}
	return list
}

// oddFeatures are some valid features, and some invalid ones.
func oddFeatures() []impl.Feature {
	list := []impl.Feature{{Kind: 1, Sector: 2}, {Kind: 1, Sector: 3}, {Kind: 2}, {Kind: 3, Sector: 1}, {Kind: 4}, {Kind: 5}, {Kind: 6}, {Kind: 7, Value: 2}, {Kind: 8, Value: 2}, {Kind: 8, Value: 30}}
	for i, f := range edgeFeatures() {
		if i%97 == 0 {
			list = append(list, f)
		}
	}
	return list
}

// oddQuadruples are numbers that few functions accept, and some that most do.
func oddQuadruples() [][4]int64 {
	list := [][4]int64{{impl.TfMfm, 3, 1, 500}, {impl.TfGcr, 0, 0, 1}, {impl.TfFm, 255, 255, 8000}, {1, 1, 1, 0}, {8, 2, 8, 2}, {2, 1, 3, 1}, {0, 0, 0, 0}}
	numbers := oddNumbers()
	for i := range numbers {
		list = append(list, [4]int64{numbers[i], numbers[(i+7)%len(numbers)], numbers[(i+11)%len(numbers)], numbers[(i+18)%len(numbers)]})
	}
	return list
}

// noMore requires what alone does, also of structures.
func noMore(t *testing.T, what string, pairs ...any) {
	t.Helper()
	for i := 0; i < len(pairs); i += 2 {
		spec, isSpec := pairs[i+1].(impl.TrackSpec)
		d, isDisc := pairs[i+1].(impl.Disc)
		x, isDevice := pairs[i+1].(impl.Device)
		switch failed := pairs[i] != true && pairs[i] != int64(impl.OK); {
		case isDevice:
			is(t, what, failed && !isNothing(x), false)
		case isSpec:
			is(t, what, failed && !impl.SameTrackSpec(spec, impl.TrackSpec{}), false)
		case isDisc:
			is(t, what, failed && !impl.SameDisc(d, impl.Disc{}), false)
		default:
			alone(t, what, pairs[i:i+2]...)
		}
	}
}

func TestP1Features(t *testing.T) {
	tracks, found, voted, features, numbers := oddTracks(), oddFound(), oddVoted(), oddFeatures(), oddQuadruples()
	texts := append(oddStrings(), "duplicate 2 0", "long 5", "weak 0 1", "weak 0 01", marked(impl.TfFm, 1, 2), marked(impl.TfMfm, 1, 1, 3), marked(impl.TfGcr, 1), strings.Repeat(marked(impl.TfGcr, 1), impl.MaxMarks+1))
	for i, s := range texts {
		for j := range tracks {
			for k := range numbers {
				if (i+j+k)%9 > 0 {
					continue
				}
				results := func() []any {
					return stage6Features(found[(i+j)%len(found)], voted[(i+k)%len(voted)], tracks[j], features[(i+j+k)%len(features)], s, numbers[k])
				}
				got := results()
				if !reflect.DeepEqual(got, results()) {
					t.Errorf("other results for %.40q, track %d and %v", s, j, numbers[k])
				}
				noMore(t, "chapter 11", got[:16]...)
			}
		}
	}
}

func TestP1Discs(t *testing.T) {
	discs, found, numbers := oddDiscs(), oddFound(), oddQuadruples()
	sectors := append(invalidSector(0), held(0, impl.SsGood, "ABCDEFGH"), held(1, impl.SsBad, strings.Repeat("x", 16)), held(2, impl.SsMissing, ""))
	for i, d := range discs {
		for j := range numbers {
			for k := range sectors {
				if (i+j+k)%5 > 0 {
					continue
				}
				e := discs[(i+k)%len(discs)]
				results := func() []any { return stage6Discs(d, e, found[(j+k)%len(found)], sectors[k], numbers[j]) }
				got := results()
				if !reflect.DeepEqual(got, results()) {
					t.Errorf("other results for discs %d and %d, sector %d and %v", i, (i+k)%len(discs), k, numbers[j])
				}
				noMore(t, "chapter 12", got[:14]...)
			}
		}
	}
}

func TestP1ProtectedTracksAreUnchanged(t *testing.T) {
	extra := impl.SectorSpec{Cylinder: 77, Data: "room"}
	for i, spec := range oddTracks() {
		short, all := filled(spec.Sectors, extra)
		full := impl.TrackSpec{Format: spec.Format, Gap: spec.Gap, Sectors: short}
		before := slices.Clone(all)
		for _, f := range oddFeatures() {
			stage6Features(nil, nil, full, f, "", [4]int64{impl.TfFm, 3, 1, 9})
			impl.ProtectTrack(full, impl.Feature{Kind: impl.FtDuplicate, Sector: int64(len(short))})
		}
		is(t, "sectors of track "+strconv.Itoa(i), all, before)
	}
	for i, list := range oddFound() {
		short, all := filled(list, impl.Found{Cylinder: 77, Data: "room"})
		before := slices.Clone(all)
		stage6Features(short, nil, sampleTrack(), impl.Feature{}, "", [4]int64{impl.TfFm, 3, 1, 9})
		is(t, "sectors "+strconv.Itoa(i), all, before)
	}
	for i, list := range oddVoted() {
		short, all := filled(list, impl.Voted{Cylinder: 77})
		before := slices.Clone(all)
		stage6Features(nil, short, sampleTrack(), impl.Feature{}, "", [4]int64{})
		is(t, "voted "+strconv.Itoa(i), all, before)
	}
}

func TestP1DiscsAreUnchanged(t *testing.T) {
	for i, d := range oddDiscs() {
		short, all := filled(d.Sectors, impl.Sector{Data: "room", State: 77})
		before := slices.Clone(all)
		full := impl.Disc{Cylinders: d.Cylinders, Heads: d.Heads, PerTrack: d.PerTrack, Size: d.Size, Sectors: short}
		for _, list := range append(oddFound(), []impl.Found{{Number: 1, Data: "ABCDEFGH", State: impl.StGood}, {Number: 2, Data: "ABCDEFGH", State: impl.StBadData}}) {
			found, room := filled(list, impl.Found{Cylinder: 77})
			beforeRoom := slices.Clone(room)
			for _, n := range []int64{0, 1, 23, -1} {
				stage6Discs(full, full, found, held(0, impl.SsWeak, "12345678"), [4]int64{n, 0, 0, 0})
			}
			is(t, "found", room, beforeRoom)
		}
		is(t, "sectors of disc "+strconv.Itoa(i), all, before)
	}
}

func TestP1ResultsOfDiscsShareNoMemory(t *testing.T) {
	spec, d := sampleTrack(), sampleDisc()
	before, beforeDisc := sampleTrack(), sampleDisc()
	tracks := func() [][]impl.SectorSpec {
		more, _ := impl.ProtectTrack(spec, impl.Feature{Kind: impl.FtDuplicate, Sector: 2})
		bad, _ := impl.ProtectTrack(spec, impl.Feature{Kind: impl.FtBadId, Sector: 1})
		long, _ := impl.ProtectTrack(spec, impl.Feature{Kind: impl.FtLong, Value: 1})
		plain, _ := impl.PlainTrack(spec, 3, 1)
		track, _ := impl.TrackOf(d, 1)
		return [][]impl.SectorSpec{more.Sectors, bad.Sectors, long.Sectors, plain.Sectors, track.Sectors}
	}
	discs := func() [][]impl.Sector {
		empty, _ := impl.NewDisc(1, 2, 3, 0)
		put, _ := impl.PutSector(d, 0, d.Sectors[0])
		other, _ := impl.PutSector(d, 23, held(0, impl.SsGood, "ABCDEFGH"))
		still, _ := impl.FillTrack(d, 0, nil)
		filled, _ := impl.FillTrack(d, 0, []impl.Found{{Number: 2, Data: "ABCDEFGH", State: impl.StGood}})
		made, _ := impl.DiscOfData(1, 1, 2, 0, "ABCDEFGHIJKLMNOP")
		return [][]impl.Sector{empty.Sectors, put.Sectors, other.Sectors, still.Sectors, filled.Sectors, made.Sectors}
	}
	features := func() [][]impl.Feature {
		list := []impl.Found{read(1, impl.StGood), read(1, impl.StBadData)}
		sectors, _ := impl.SectorFeatures(list, 3, 0)
		weak, _ := impl.WeakFeatures(elected(0))
		track, _ := impl.TrackFeatures(built(t, spec), spec.Format, 3, 0, 1)
		described, _ := impl.SpecFeatures(spec, 3, 0)
		return [][]impl.Feature{sectors, weak, track, described}
	}
	numbers := func() [][]int64 {
		e, _ := impl.PutSector(d, 5, held(0, impl.SsGood, "ABCDEFGH"))
		changed, _ := impl.ChangedSectors(d, e)
		return [][]int64{impl.StatesOf(d), changed}
	}
	wantTracks, wantDiscs, wantFeatures, wantNumbers := tracks(), discs(), features(), numbers()
	spoil(t, tracks())
	spoil(t, discs())
	spoil(t, features())
	spoil(t, numbers())
	is(t, "arguments", []any{spec, d}, []any{before, beforeDisc})
	is(t, "later results", []any{tracks(), discs(), features(), numbers()}, []any{wantTracks, wantDiscs, wantFeatures, wantNumbers})
}

// spoil clears lists, of which none may be empty, together with their room, and one must not clear another one.
func spoil[T any](t *testing.T, lists [][]T) {
	t.Helper()
	for i, list := range lists {
		is(t, "some results", len(list) > 0, true)
		later := []T{}
		for _, other := range lists[i+1:] {
			later = append(later, other...)
		}
		clear(list[:cap(list)])
		after := []T{}
		for _, other := range lists[i+1:] {
			after = append(after, other...)
		}
		is(t, "lists behind it", after, later)
	}
}

func TestP1NilAndEmptyDiscsAreAlike(t *testing.T) {
	for _, n := range append(formats(), oddNumbers()...) {
		numbers := [4]int64{n, 1, 1, 1}
		none, empty := impl.TrackSpec{Format: n, Gap: 2}, impl.TrackSpec{Format: n, Gap: 2, Sectors: []impl.SectorSpec{}}
		is(t, "features", stage6Features(nil, nil, none, impl.Feature{Kind: 8, Value: 2}, "0110", numbers), stage6Features([]impl.Found{}, []impl.Voted{}, empty, impl.Feature{Kind: 8, Value: 2}, "0110", numbers))
		a, b := impl.Disc{Cylinders: 1, Heads: 1, PerTrack: 1}, impl.Disc{Cylinders: 1, Heads: 1, PerTrack: 1, Sectors: []impl.Sector{}}
		is(t, "discs", stage6Discs(a, b, nil, impl.Sector{}, numbers), stage6Discs(b, a, []impl.Found{}, impl.Sector{}, numbers))
	}
	got, c := impl.FillTrack(sampleDisc(), 0, []impl.Found{})
	discIs(t, "nothing is found", got, c, sampleDisc())
}

func TestP1DiscsAtTheSameTime(t *testing.T) {
	var wait sync.WaitGroup
	got := make([]string, 8)
	for i := range got {
		wait.Go(func() {
			from := source(201)
			for range 10 {
				d := from.disc(1, 2, 8, 2)
				spec, _ := impl.TrackOf(d, 1)
				cells, _ := impl.BuildTrack(spec)
				features, _ := impl.TrackFeatures(cells, impl.TfMfm, 0, 0, 100)
				for _, f := range features {
					got[i] += impl.FeatureText(f)
				}
				list, _ := impl.ReadTrack(cells, impl.TfMfm)
				filled, _ := impl.FillTrack(d, 1, list)
				got[i] += impl.DataOf(filled)
			}
		})
	}
	wait.Wait()
	for _, s := range got {
		is(t, "features and data", s == got[0] && s != "", true)
	}
}

// stage7Containers returns the results of all functions of chapter 13.
func stage7Containers(s string, c impl.Chunk, x, y impl.Image, track int64) []any {
	image, imageCode := impl.DecodeImage(s)
	longer, longerCode := impl.AppendTrack(s, x.Disc, track)
	compact, compactCode := impl.CompactContainer(s)
	saved, skipped, savedCode := impl.SalvageImage(s)
	chunks, count := impl.DecodeChunks(s)
	return []any{imageCode, image, longerCode, longer, compactCode, compact, savedCode, saved, savedCode, skipped, impl.ValidChunk(c), impl.EncodeChunk(c), chunks, count, impl.ValidImage(x), impl.SameImage(x, y), impl.EncodeImage(x)}
}

// stage7Packing returns the results of all functions of chapter 14.
func stage7Packing(s, other string, list []impl.Delta, gaps []int64) []any {
	runs, isRuns := impl.PackRuns(s)
	unruns, isUnruns := impl.UnpackRuns(s)
	packed, isPacked := impl.PackBytes(s)
	unpacked, isUnpacked := impl.UnpackBytes(s)
	deltas, isDeltas := impl.DeltasOf(s, other)
	applied, isApplied := impl.ApplyDeltas(s, list)
	short, isShort := impl.PackGaps(gaps)
	long, isLong := impl.UnpackGaps(s)
	return []any{isRuns, runs, isUnruns, unruns, isPacked, packed, isUnpacked, unpacked, isDeltas, deltas, isApplied, applied, isShort, short, isLong, long}
}

// oddContainers are containers, well-formed and not, and other strings.
func oddContainers() []string {
	from := source(250)
	list := plainContainer(sampleImage())
	s := joined(list...)
	out := append(oddStrings(), s, s[:len(s)-1], s[1:], s+s, joined(list[1:]...), joined(list[:len(list)-1]...), joined(list[2], list[1], list[0]), containerOf(8192), containerOf(8193), strings.Repeat(list[0], 50), chunkBytes(3, strings.Repeat("x", 8192)), chunkBytes(3, strings.Repeat("x", 8193)), strings.Repeat("\x01\x04", 1024))
	for range 10 {
		out = append(out, joined(plainContainer(from.image())...), from.bytes(40), "\x01"+from.bytes(40))
	}
	return out
}

// oddImages are some valid images, and some invalid ones.
func oddImages() []impl.Image {
	list := []impl.Image{{}, sampleImage(), {Disc: sampleDisc(), Notes: []string{""}}, {Notes: []string{"a"}}}
	for i, x := range noImages() {
		if i%29 == 0 {
			list = append(list, x)
		}
	}
	return list
}

func oddChunks() []impl.Chunk {
	var list []impl.Chunk
	for _, kind := range append(oddNumbers(), 3, 5) {
		list = append(list, impl.Chunk{Kind: kind}, impl.Chunk{Kind: kind, Data: "data"})
	}
	return append(list, impl.Chunk{Kind: 2, Data: strings.Repeat("x", 8192)}, impl.Chunk{Kind: 2, Data: strings.Repeat("x", 8193)}, impl.Chunk{Kind: 4, Data: strings.Repeat("x", 70000)})
}

// oddDeltas are lists of which some fit some strings.
func oddDeltas() [][]impl.Delta {
	list := [][]impl.Delta{nil, {}, {{At: 0, Data: "x"}}, {{At: 1, Data: "xy"}, {At: 3, Data: "z"}}, {{At: 3, Data: "z"}, {At: 1, Data: "xy"}}, {{}}, {{Data: strings.Repeat("x", 5000)}}}
	for _, n := range oddNumbers() {
		list = append(list, []impl.Delta{{At: n, Data: "x"}}, []impl.Delta{{At: 0, Data: "x"}, {At: n, Data: "x"}}, []impl.Delta{{At: n}})
	}
	return list
}

// oddPacked are strings that are packed in some way, and others.
func oddPacked() []string {
	from := source(251)
	plain := from.lumpy(300, 4)
	return append(oddStrings(), plain, plainRuns(plain), plainPacked(plain), plainGaps([]int64{5, 2000000, 1}), "\x80\x01", "\x00a\xff\x01", "\x00a\xff\x02", "\x7d", "\x7e\x00", "\x02\x00\x00", "\x80\x00", strings.Repeat("\x00b", 4096), strings.Repeat("\x00b", 4096)+"\x00", strings.Repeat("\x80", 9000), "\x02"+strings.Repeat("\x00", 3999), "\x02"+strings.Repeat("\x00", 4000), from.bytes(4096), from.bytes(4097))
}

func TestP1Containers(t *testing.T) {
	chunks, images := oddChunks(), oddImages()
	tracks := append(oddNumbers(), 3, 15, 16)
	for i, s := range oddContainers() {
		for j, x := range images {
			for k, track := range tracks {
				if (i+j+k)%19 > 0 {
					continue
				}
				c, y := chunks[(i+j+2*k)%len(chunks)], images[(i+k)%len(images)]
				got := stage7Containers(s, c, x, y, track)
				if !reflect.DeepEqual(got, stage7Containers(s, c, x, y, track)) {
					t.Errorf("other results for container %d, image %d, track %d", i, j, track)
				}
				alone(t, "chapter 13", got[:12]...)
			}
		}
	}
}

func TestP1Packing(t *testing.T) {
	list, deltas := oddPacked(), oddDeltas()
	gaps := append(oddLists(), []int64{1, 2000000, 1}, []int64{0}, []int64{2000001}, ones(4000, 1), ones(4001, 1))
	for i, s := range list {
		for j := range deltas {
			for k := range gaps {
				if (i+j+k)%19 > 0 {
					continue
				}
				other := list[(i+j)%len(list)]
				got := stage7Packing(s, other, deltas[j], gaps[k])
				if !reflect.DeepEqual(got, stage7Packing(s, other, deltas[j], gaps[k])) {
					t.Errorf("other results for string %d, list %d, gaps %d", i, j, k)
				}
				alone(t, "chapter 14", got...)
			}
		}
	}
}

func TestP1ImagesAreUnchanged(t *testing.T) {
	s := joined(plainContainer(sampleImage())...)
	for i, x := range oddImages() {
		sectors, allSectors := filled(x.Disc.Sectors, impl.Sector{Data: "room", State: 77})
		notes, allNotes := filled(x.Notes, "room")
		beforeSectors, beforeNotes := slices.Clone(allSectors), slices.Clone(allNotes)
		full := impl.Image{Disc: x.Disc, Notes: notes}
		full.Disc.Sectors = sectors
		for track := range int64(5) {
			stage7Containers(s, impl.Chunk{}, full, full, track)
		}
		is(t, "sectors of image "+strconv.Itoa(i), allSectors, beforeSectors)
		is(t, "notes of image "+strconv.Itoa(i), allNotes, beforeNotes)
	}
}

func TestP1ListsToPackAreUnchanged(t *testing.T) {
	for i, list := range oddDeltas() {
		short, all := filled(list, impl.Delta{At: 77, Data: "room"})
		before := slices.Clone(all)
		for _, s := range []string{"", "abcdef", strings.Repeat("a", 4096)} {
			stage7Packing(s, s, short, nil)
		}
		is(t, "deltas "+strconv.Itoa(i), all, before)
	}
	for i, gaps := range append(oddLists(), ones(4000, 1), ones(4001, 1)) {
		short, all := roomyList(gaps)
		before := slices.Clone(all)
		stage7Packing("", "", nil, short)
		is(t, "gaps "+strconv.Itoa(i), all, before)
	}
}

func TestP1ResultsOfContainersShareNoMemory(t *testing.T) {
	x := sampleImage()
	s := impl.EncodeImage(x)
	chunks := func() [][]impl.Chunk {
		list, _ := impl.DecodeChunks(s)
		part, _ := impl.DecodeChunks(s[:len(s)-1])
		return [][]impl.Chunk{list, part}
	}
	images := func() []impl.Image {
		image, _ := impl.DecodeImage(s)
		saved, _, _ := impl.SalvageImage(s[:len(s)-2])
		return []impl.Image{image, saved}
	}
	sectors := func() [][]impl.Sector {
		list := images()
		return [][]impl.Sector{list[0].Disc.Sectors, list[1].Disc.Sectors}
	}
	notes := func() [][]string {
		list := images()
		return [][]string{list[0].Notes, list[1].Notes}
	}
	others := func() ([][]impl.Delta, [][]int64) {
		a, _ := impl.DeltasOf("abcdef", "aXYdeZ")
		b, _ := impl.DeltasOf("abcdef", "aXYdeZ")
		gaps, _ := impl.UnpackGaps("\xc8\x01\x03\x94\x03")
		same, _ := impl.UnpackGaps("\xc8\x01\x03\x94\x03")
		return [][]impl.Delta{a, b}, [][]int64{gaps, same}
	}
	wantChunks, wantSectors, wantNotes := chunks(), sectors(), notes()
	wantDeltas, wantGaps := others()
	spoil(t, chunks())
	spoil(t, sectors())
	spoil(t, notes())
	deltas, gaps := others()
	spoil(t, deltas)
	spoil(t, gaps)
	is(t, "arguments", x, sampleImage())
	deltas, gaps = others()
	is(t, "later results", []any{chunks(), sectors(), notes(), deltas, gaps}, []any{wantChunks, wantSectors, wantNotes, wantDeltas, wantGaps})
}

func TestP1NilAndEmptyImagesAreAlike(t *testing.T) {
	for _, d := range []impl.Disc{sampleDisc(), {}, {Cylinders: 1, Heads: 1, PerTrack: 1, Sectors: []impl.Sector{}}} {
		none, empty := impl.Image{Disc: d}, impl.Image{Disc: copied(d), Notes: []string{}}
		for _, s := range oddContainers()[:40] {
			is(t, "images", stage7Containers(s, impl.Chunk{}, none, empty, 0), stage7Containers(s, impl.Chunk{}, empty, none, 0))
		}
	}
	for _, s := range oddPacked() {
		is(t, "lists", stage7Packing(s, "", nil, nil), stage7Packing(s, "", []impl.Delta{}, []int64{}))
	}
}

func TestP1ContainersAtTheSameTime(t *testing.T) {
	var wait sync.WaitGroup
	got := make([]string, 8)
	for i := range got {
		wait.Go(func() {
			from := source(252)
			for range 20 {
				x := from.image()
				s := impl.EncodeImage(x)
				back, _, _ := impl.SalvageImage(s[:len(s)-3] + from.bytes(300))
				longer, _ := impl.AppendTrack(s, back.Disc, 0)
				packed, _ := impl.PackRuns(from.lumpy(500, 3))
				plain, _ := impl.UnpackRuns(packed + from.bytes(1))
				gaps, _ := impl.UnpackGaps(from.bytes(3))
				got[i] += longer + plain + strconv.Itoa(len(gaps)) + impl.EncodeChunk(impl.Chunk{Kind: 3, Data: from.bytes(5000)})
			}
		})
	}
	wait.Wait()
	for _, s := range got {
		is(t, "containers", s == got[0] && s != "", true)
	}
}

// stage8Devices returns the results of all functions of chapter 15 that have a device as an argument, or make one of its disc.
func stage8Devices(d, other impl.Device, n, m int64, data string, list []string) []any {
	made, madeCode := impl.NewDevice(d.Disc, n, m)
	sector, sectorCode := impl.SectorOf(d, n)
	read, readCode := impl.ReadDeviceBlock(d, n)
	written, writtenCode := impl.WriteDeviceBlock(d, n, data)
	moved, movedCode := impl.ReplaceBlock(d, n)
	all, lost, allCode := impl.AllBlocks(d)
	stored, storedCode := impl.StoreBlocks(d, list)
	return []any{madeCode, made, sectorCode, sector, readCode, read, writtenCode, written, movedCode, moved, allCode, all, allCode, lost, storedCode, stored, impl.ValidDevice(d), impl.SameDevice(d, other), impl.DeviceBlocks(d)}
}

// oddDevices are some valid devices, and some invalid ones.
func oddDevices() []impl.Device {
	from := source(290)
	list := []impl.Device{sampleDevice(), statesDevice(), from.device(from.disc(1, 1, 1, 0), 7, 0), from.device(from.disc(8, 2, 8, 2), 3, 0), from.device(from.disc(8, 2, 8, 2), 3, 127), from.device(from.disc(2, 1, 3, 1), 1, 2)}
	for i, d := range invalidDevices() {
		if i%23 == 0 {
			list = append(list, d)
		}
	}
	const most = math.MaxInt64
	list = append(list, impl.Device{Disc: sampleDisc(), Skew: most, Spare: math.MinInt64, Map: []int64{most, math.MinInt64}}, impl.Device{Disc: impl.Disc{Cylinders: most, Heads: most, PerTrack: most, Size: most}, Skew: most, Spare: most, Map: upTo(9)}, impl.Device{Disc: impl.Disc{Cylinders: 1, Heads: 1}, Map: upTo(1)})
	return append(list, impl.Device{Disc: sampleDisc(), Map: make([]int64, 100000)})
}

// oddFiles are some valid lists of files, and some invalid ones.
func oddFiles() [][]impl.File {
	return [][]impl.File{nil, {}, manyFiles(16), manyFiles(17), named("A", "A"), named("B", "A"), named(oddStrings()...), make([]impl.File, 100000), {{Name: "A", Data: strings.Repeat("x", 1<<16)}}}
}

func TestP1Devices(t *testing.T) {
	devices, from := oddDevices(), source(291)
	texts := append(oddStrings(), "ABCDEFGH", strings.Repeat("x", 16), strings.Repeat("x", 32))
	numbers := append(oddNumbers(), 3, 18, 19, 23, 24, 127, 128)
	for i, d := range devices {
		lists := [][]string{nil, {}, texts, from.blocks(sampleDevice()), from.blocks(statesDevice()), slices.Repeat([]string{strings.Repeat("x", 32)}, 128), make([]string, 100000)}
		for j, n := range numbers {
			for k, data := range texts {
				if (i+j+k)%9 > 0 {
					continue
				}
				other, m, list := devices[(i+k)%len(devices)], numbers[(j+k)%len(numbers)], lists[(j+k)%len(lists)]
				got := stage8Devices(d, other, n, m, data, list)
				if !reflect.DeepEqual(got, stage8Devices(d, other, n, m, data, list)) {
					t.Errorf("other results for device %d, %d, %d, and text %d", i, n, m, k)
				}
				noMore(t, "chapter 15", got[:16]...)
			}
		}
	}
	for i, list := range oddFiles() {
		is(t, "files "+strconv.Itoa(i), impl.ValidFiles(list), impl.ValidFiles(list))
	}
}

// The blocks of each length are written, so that all functions change their results.
func TestP1DevicesAreUnchanged(t *testing.T) {
	for i, d := range oddDevices() {
		sectors, allSectors := filled(d.Disc.Sectors, impl.Sector{Data: "room", State: 77})
		blocks, allBlocks := roomyList(d.Map)
		list, allTexts := filled(slices.Repeat([]string{strings.Repeat("x", 8)}, len(d.Map)), "room")
		beforeSectors, beforeBlocks, beforeTexts := slices.Clone(allSectors), slices.Clone(allBlocks), slices.Clone(allTexts)
		full := impl.Device{Disc: d.Disc, Skew: d.Skew, Spare: d.Spare, Map: blocks}
		full.Disc.Sectors = sectors
		for _, n := range []int64{0, 1, 3, 18, -1} {
			for _, count := range []int{8, 16, 32, 5} {
				for j := range list {
					list[j], beforeTexts[j] = strings.Repeat("x", count), strings.Repeat("x", count)
				}
				stage8Devices(full, full, n, 1, strings.Repeat("x", count), list)
			}
		}
		is(t, "sectors of device "+strconv.Itoa(i), allSectors, beforeSectors)
		is(t, "blocks of device "+strconv.Itoa(i), allBlocks, beforeBlocks)
		is(t, "contents of device "+strconv.Itoa(i), allTexts, beforeTexts)
	}
	for i, list := range oddFiles() {
		short, all := filled(list, impl.File{Name: "ROOM"})
		before := slices.Clone(all)
		impl.ValidFiles(short)
		is(t, "files "+strconv.Itoa(i), all, before)
	}
}

func TestP1ResultsOfDevicesShareNoMemory(t *testing.T) {
	d, texts := statesDevice(), []string{"00000000", "11111111", "22222222", "33333333"}
	devices := func() []impl.Device {
		made, _ := impl.NewDevice(d.Disc, 0, 0)
		spared, _ := impl.NewDevice(d.Disc, 1, 4)
		written, _ := impl.WriteDeviceBlock(d, 0, "ABCDEFGH")
		same, _ := impl.WriteDeviceBlock(d, 0, "AAAAAAAA")
		moved, _ := impl.ReplaceBlock(d, 0)
		stored, _ := impl.StoreBlocks(d, texts)
		return []impl.Device{made, spared, written, same, moved, stored}
	}
	sectors := func() [][]impl.Sector {
		var lists [][]impl.Sector
		for _, x := range devices() {
			lists = append(lists, x.Disc.Sectors)
		}
		return lists
	}
	maps := func() [][]int64 {
		var lists [][]int64
		for _, x := range devices() {
			lists = append(lists, x.Map)
		}
		_, lost, _ := impl.AllBlocks(d)
		return append(lists, lost)
	}
	contents := func() [][]string {
		list, _, _ := impl.AllBlocks(d)
		again, _, _ := impl.AllBlocks(d)
		return [][]string{list, again}
	}
	wantSectors, wantMaps, wantContents := sectors(), maps(), contents()
	spoil(t, sectors())
	spoil(t, maps())
	spoil(t, contents())
	is(t, "arguments", []any{d, texts}, []any{statesDevice(), []string{"00000000", "11111111", "22222222", "33333333"}})
	is(t, "later results", []any{sectors(), maps(), contents()}, []any{wantSectors, wantMaps, wantContents})
}

func TestP1NilAndEmptyDevicesAreAlike(t *testing.T) {
	for _, disc := range []impl.Disc{{}, sampleDisc(), {Cylinders: 1, Heads: 1, PerTrack: 1}} {
		for _, n := range oddNumbers() {
			none, empty := impl.Device{Disc: disc, Spare: n}, impl.Device{Disc: copied(disc), Spare: n, Map: []int64{}}
			if len(disc.Sectors) == 0 {
				empty.Disc.Sectors = []impl.Sector{}
			}
			is(t, "devices", stage8Devices(none, empty, n, n, "", nil), stage8Devices(empty, none, n, n, "", []string{}))
		}
	}
	is(t, "files", impl.ValidFiles(nil), impl.ValidFiles([]impl.File{}))
}

func TestP1DevicesAtTheSameTime(t *testing.T) {
	var wait sync.WaitGroup
	got := make([]string, 8)
	for i := range got {
		wait.Go(func() {
			from := source(292)
			for range 50 {
				d := from.device(from.disc(2, 2, 4, 1), from.below(8), 1+from.below(15))
				for range 20 {
					block := from.below(impl.DeviceBlocks(d))
					d, _ = impl.ReplaceBlock(d, block)
					d, _ = impl.WriteDeviceBlock(d, block, from.bytes(16))
				}
				list, lost, _ := impl.AllBlocks(d)
				got[i] += strings.Join(list, "") + strconv.Itoa(len(lost)) + impl.DataOf(d.Disc)
			}
		})
	}
	wait.Wait()
	for _, s := range got {
		is(t, "blocks", s == got[0] && s != "", true)
	}
}

// stage9Chains returns the results of all functions of chapter 16 that have a disk as an argument.
func stage9Chains(disk []string, n, m int64, e impl.ChainEntry, f impl.File) []any {
	layout, layoutCode := impl.LayoutOf(disk)
	link, linkCode := impl.LinkAt(disk, n)
	linked, linkedCode := impl.SetLink(disk, n, m)
	entry, entryCode := impl.EntryAt(disk, n)
	entered, enteredCode := impl.SetEntry(disk, n, e)
	chain, chainCode := impl.ChainFrom(disk, n)
	names, namesCode := impl.ListChains(disk)
	data, dataCode := impl.ReadChain(disk, f.Name)
	written, writtenCode := impl.WriteChain(disk, f)
	gone, goneCode := impl.DeleteChain(disk, f.Name)
	free, freeCode := impl.FreeChains(disk)
	return []any{layoutCode, layout, linkCode, link, linkedCode, linked, entryCode, entry, enteredCode, entered, chainCode, chain, namesCode, names, dataCode, data, writtenCode, written, goneCode, gone, freeCode, free}
}

// stage9Extents returns the results of all functions of chapter 17 that have a disk as an argument.
func stage9Extents(disk []string, n int64, e impl.ExtentEntry, f impl.File) []any {
	layout, layoutCode := impl.ExtentsOn(disk)
	entry, entryCode := impl.ExtentAt(disk, n)
	entered, enteredCode := impl.SetExtent(disk, n, e)
	names, namesCode := impl.ListExtents(disk)
	data, dataCode := impl.ReadExtents(disk, f.Name)
	written, writtenCode := impl.WriteExtents(disk, f)
	gone, goneCode := impl.DeleteExtents(disk, f.Name)
	free, freeCode := impl.FreeExtents(disk)
	problems, problemsCode := impl.ExtentProblems(disk)
	return []any{layoutCode, layout, entryCode, entry, enteredCode, entered, namesCode, names, dataCode, data, writtenCode, written, goneCode, gone, freeCode, free, problemsCode, problems}
}

// oddDisks are disks with chains and with extents, damaged ones, and lists that are no disks.
func oddDisks(t *testing.T) [][]string {
	from := source(320)
	list := [][]string{nil, {}, oddStrings(), make([]string, 100000), slices.Repeat([]string{strings.Repeat("x", 1<<16)}, 16)}
	for i := range int64(12) {
		list = append(list, from.anyChains(t, i), from.anyExtents(t, i))
	}
	for i, disk := range noDisks(func(blocks, size int) string { return chainStart(blocks, min(16, blocks/8), size) }) {
		if i%17 == 0 {
			list = append(list, disk)
		}
	}
	// Nothing of these is as it should be, but the header.
	for _, l := range chainShapes()[:12] {
		disk := slices.Repeat([]string{from.bytes(int(l.Size))}, int(l.Blocks))
		disk[0] = chainStart(int(l.Blocks), int(l.Entries), int(l.Size))
		list = append(list, disk)
	}
	for _, l := range extentShapes()[:12] {
		disk := slices.Repeat([]string{from.bytes(int(l.Size))}, int(l.Blocks))
		disk[0] = extentStart(int(l.Blocks), int(l.Size), int(l.Entries))
		list = append(list, disk)
	}
	return list
}

func oddDiskFiles() []impl.File {
	list := []impl.File{{Name: "A", Data: "abc"}, {Name: "B"}, {Name: "C", Data: strings.Repeat("x", 512)}, {Name: "D", Data: strings.Repeat("x", 513)}, {Name: "LONG", Data: strings.Repeat("x", 1<<16)}}
	for _, name := range oddStrings() {
		list = append(list, impl.File{Name: name, Data: "abc"})
	}
	return list
}

func TestP1Disks(t *testing.T) {
	chains, extents := append(invalidEntries(), impl.ChainEntry{}), append(invalidExtents(), impl.ExtentEntry{})
	for _, e := range validEntries() {
		chains = append(chains, e)
	}
	for _, e := range validExtents() {
		extents = append(extents, e)
	}
	files, numbers := oddDiskFiles(), append(oddNumbers(), 3, 5, 8, 9, 15, 16, 31, 32, 40, 127, 128, 253, 254, 255, 256)
	for i, disk := range oddDisks(t) {
		for j, n := range numbers {
			m := numbers[(i+3*j)%len(numbers)]
			e, x, f := chains[(i+j)%len(chains)], extents[(i+j)%len(extents)], files[(i+2*j)%len(files)]
			got := append(stage9Chains(disk, n, m, e, f), stage9Extents(disk, n, x, f)...)
			if !reflect.DeepEqual(got, append(stage9Chains(disk, n, m, e, f), stage9Extents(disk, n, x, f)...)) {
				t.Errorf("other results for disk %d, %d, and %d", i, n, m)
			}
			noMore(t, "chapters 16 and 17", got...)
		}
	}
	for _, n := range numbers {
		for _, m := range numbers {
			chains, chainsCode := impl.FormatChains(n, m)
			extents, extentsCode := impl.FormatExtents(n, m)
			alone(t, "new disks", chainsCode, chains, extentsCode, extents)
		}
	}
}

func TestP1DisksAreUnchanged(t *testing.T) {
	for i, disk := range oddDisks(t) {
		short, all := filled(disk, "room")
		before := slices.Clone(all)
		for n := int64(-1); n < 40; n++ {
			blocks, room := roomyList([]int64{n + 1, 5, 9})
			wantRoom := slices.Clone(room)
			f := impl.File{Name: string(rune('A' + (n+1)%7)), Data: strings.Repeat("y", int(n+1))}
			stage9Chains(short, n, 255-n, impl.ChainEntry{Name: "AB", First: 3, Length: 4, Used: true}, f)
			stage9Extents(short, n, impl.ExtentEntry{State: 1, Name: "AB", Tail: 3, Blocks: blocks}, f)
			is(t, "blocks", room, wantRoom)
		}
		is(t, "disk "+strconv.Itoa(i), slices.Equal(all, before), true)
	}
}

func TestP1ResultsOfDisksShareNoMemory(t *testing.T) {
	disk, other := chainsWith(t, 32, 8, "A 9", "B 20"), extentsWith(t, 32, 8, extentOf("A", 0, 8, 17, 17), extentOf("A", 0, 0, 3), goneExtent("C", 1, 1, 17))
	want, wantOther := slices.Clone(disk), slices.Clone(other)
	disks := func() [][]string {
		a, _ := impl.FormatChains(16, 8)
		b, _ := impl.SetLink(disk, 11, 12)
		c, _ := impl.SetEntry(disk, 3, impl.ChainEntry{})
		d, _ := impl.WriteChain(disk, fileOf("A 9"))
		e, _ := impl.DeleteChain(disk, "A")
		f, _ := impl.FormatExtents(16, 8)
		g, _ := impl.SetExtent(other, 5, impl.ExtentEntry{})
		h, _ := impl.WriteExtents(other, fileOf("B 9"))
		i, _ := impl.DeleteExtents(other, "A")
		names, _ := impl.ListChains(disk)
		others, _ := impl.ListExtents(other)
		return [][]string{a, b, c, d, e, f, g, h, i, names, others}
	}
	numbers := func() [][]int64 {
		chain, _ := impl.ChainFrom(disk, 11)
		free, _ := impl.FreeChains(disk)
		blocks, _ := impl.ExtentAt(other, 0)
		same, _ := impl.ExtentAt(other, 0)
		others, _ := impl.FreeExtents(other)
		return [][]int64{chain, free, blocks.Blocks, same.Blocks, others}
	}
	problems := func() [][]impl.ExtentProblem {
		a, _ := impl.ExtentProblems(other)
		b, _ := impl.ExtentProblems(other)
		return [][]impl.ExtentProblem{a, b}
	}
	wantDisks, wantNumbers, wantProblems := disks(), numbers(), problems()
	spoil(t, disks())
	spoil(t, numbers())
	spoil(t, problems())
	is(t, "arguments", []any{disk, other}, []any{want, wantOther})
	is(t, "later results", []any{disks(), numbers(), problems()}, []any{wantDisks, wantNumbers, wantProblems})
}

func TestP1NilAndEmptyDisksAreAlike(t *testing.T) {
	is(t, "chains", stage9Chains(nil, 0, 0, impl.ChainEntry{}, impl.File{}), stage9Chains([]string{}, 0, 0, impl.ChainEntry{}, impl.File{}))
	is(t, "extents", stage9Extents(nil, 0, impl.ExtentEntry{}, impl.File{}), stage9Extents([]string{}, 0, impl.ExtentEntry{}, impl.File{}))
	disk := extentsWith(t, 16, 16, extentOf("A", 0, 0))
	for _, e := range []impl.ExtentEntry{{}, {State: 1, Name: "A"}, {State: 229, Name: "A", Tail: 16}, {State: 5}} {
		empty := e
		empty.Blocks = []int64{}
		is(t, "no blocks", stage9Extents(disk, 0, e, impl.File{}), stage9Extents(disk, 0, empty, impl.File{}))
	}
}

func TestP1DisksAtTheSameTime(t *testing.T) {
	var wait sync.WaitGroup
	got := make([]string, 8)
	disk, other := chainsWith(t, 64, 16, "A 100"), wroteExtents(t, newExtents(t, 64, 16), "A 100")
	for i := range got {
		wait.Go(func() {
			from := source(321)
			a, b := disk, other
			for range 100 {
				f := impl.File{Name: string(rune('A' + from.below(9))), Data: from.bytes(int(from.below(90)))}
				if next, c := impl.WriteChain(a, f); c == impl.OK {
					a = next
				}
				if next, c := impl.WriteExtents(b, f); c == impl.OK {
					b = next
				}
				if next, c := impl.DeleteChain(a, string(rune('A'+from.below(20)))); c == impl.OK {
					a = next
				}
			}
			names, _ := impl.ListChains(a)
			others, _ := impl.ListExtents(b)
			got[i] = strings.Join(append(append(append(a, b...), names...), others...), "")
		})
	}
	wait.Wait()
	for _, s := range got {
		is(t, "disks", s == got[0] && s != "", true)
	}
}

// stage10Trees returns the results of all functions of chapter 18, of which those that may fail come first.
func stage10Trees(disk []string, path, data string, n int64) []any {
	made, madeCode := impl.FormatTree(n)
	mended, mendedCode := impl.MendTree(disk)
	list := append(append(treeCodes(disk, path, data), wholeCodes(disk)...), madeCode, made, mendedCode, mended)
	return append(list, impl.CheckTree(disk), impl.HashOf(path), impl.SealBlock(data))
}

// oddTrees are trees, damaged ones, and lists that are no disks.
func oddTrees(t *testing.T) [][]string {
	from := source(340)
	list := [][]string{nil, {}, oddStrings(), make([]string, 100000), slices.Repeat([]string{strings.Repeat("x", 1<<16)}, 16), sampleTree(), deepTree(t, 62), slices.Repeat([]string{strings.Repeat("\xff", 32)}, 128)}
	for i := range int64(20) {
		list = append(list, from.anyTree(t, i%5))
	}
	for _, disk := range otherDisks(t) {
		if len(disk)%3 == 0 {
			list = append(list, disk)
		}
	}
	// All numbers of blocks are as large as they can be.
	for _, number := range []int{4, 127, 128, 255} {
		x := plainTreeOf(sampleTree())
		for block := range x {
			for _, at := range []int{2, 4, 12, 14, 19} {
				if block > 0 || at == 4 {
					x.set(block, at, number)
				}
			}
		}
		list = append(list, x.disk())
	}
	return list
}

func TestP1Trees(t *testing.T) {
	paths, numbers := append(noPaths(), "A", "D", "D/A", "D/E", "A/A/A/A", "X", "I/X", "D/E/X"), append(oddNumbers(), 3, 5, 127, 128, 129)
	texts := append(oddStrings(), strings.Repeat("x", 32), strings.Repeat("x", 512), strings.Repeat("x", 513))
	for i, disk := range oddTrees(t) {
		for j, path := range paths {
			data, n := texts[(i+j)%len(texts)], numbers[(i+2*j)%len(numbers)]
			got := stage10Trees(disk, path, data, n)
			if !reflect.DeepEqual(got, stage10Trees(disk, path, data, n)) {
				t.Errorf("other results for tree %d, %.40q, %d bytes and %d", i, path, len(data), n)
			}
			alone(t, "chapter 18", got[:18]...)
		}
	}
	for _, n := range numbers {
		made, c := impl.FormatTree(n)
		is(t, "new tree", []bool{len(made) > 0, c == impl.OK}, []bool{n >= 4 && n <= 128, n >= 4 && n <= 128})
	}
}

func TestP1TreesAreUnchanged(t *testing.T) {
	for i, disk := range oddTrees(t) {
		short, all := filled(disk, "room")
		before := slices.Clone(all)
		for j, path := range []string{"", "A", "D", "D/A", "D/E", "I", "X", "D/X", "A/X", "LONGNAME", "a", "F", "A/F"} {
			stage10Trees(short, path, strings.Repeat("y", 40*j), 16)
		}
		is(t, "tree "+strconv.Itoa(i), slices.Equal(all, before), true)
	}
}

func TestP1ResultsOfTreesShareNoMemory(t *testing.T) {
	disk, damaged := sampleTree(), changedTree(func(x plainTree) { x.tear(2); x.tear(6) })
	want, wantDamaged := slices.Clone(disk), slices.Clone(damaged)
	lists := func() [][]string {
		a, _ := impl.FormatTree(16)
		b, _ := impl.MakeDirectory(disk, "X")
		c, _ := impl.WriteTree(disk, "A", "ALPHA")
		d, _ := impl.WriteTree(disk, "X", "")
		e, _ := impl.DeleteTree(disk, "I")
		f, _ := impl.ListTree(disk, "")
		g, _ := impl.ListTree(disk, "D")
		h, _ := impl.TreePaths(disk)
		i, _ := impl.MendTree(disk)
		j, _ := impl.MendTree(damaged)
		return [][]string{a, b, c, d, e, f, g, h, i, j}
	}
	problems := func() [][]impl.TreeProblem {
		return [][]impl.TreeProblem{impl.CheckTree(damaged), impl.CheckTree(damaged), impl.CheckTree(nil), impl.CheckTree(nil), impl.CheckTree(damaged[1:])}
	}
	wantLists, wantProblems := lists(), problems()
	spoil(t, lists())
	spoil(t, problems())
	is(t, "arguments", []any{disk, damaged}, []any{want, wantDamaged})
	is(t, "later results", []any{lists(), problems()}, []any{wantLists, wantProblems})
}

func TestP1NilAndEmptyTreesAreAlike(t *testing.T) {
	for _, path := range []string{"", "A", "a"} {
		is(t, "trees", stage10Trees(nil, path, "", 0), stage10Trees([]string{}, path, "", 0))
	}
}

func TestP1TreesAtTheSameTime(t *testing.T) {
	var wait sync.WaitGroup
	got := make([]string, 8)
	first := treeWith(t, 64, "A/", "A/B/", "A/F 100")
	for i := range got {
		wait.Go(func() {
			from := source(341)
			disk := first
			for range 100 {
				path := from.anyPath()
				if next, c := impl.WriteTree(disk, path, from.bytes(int(from.below(90)))); c == impl.OK {
					disk = next
				}
				if next, c := impl.MakeDirectory(disk, from.anyPath()); c == impl.OK {
					disk = next
				}
				if next, c := impl.DeleteTree(disk, from.anyPath()); c == impl.OK {
					disk = next
				}
				x := plainTreeOf(disk)
				from.damage(x)
				if next, c := impl.MendTree(x.disk()); c == impl.OK {
					disk = next
				}
				got[i] += strconv.Itoa(len(impl.CheckTree(x.disk())))
			}
			paths, _ := impl.TreePaths(disk)
			got[i] += strings.Join(append(disk, paths...), "")
		})
	}
	wait.Wait()
	for _, s := range got {
		is(t, "trees", s == got[0] && s != "", true)
	}
}

// stage11Checks returns the results of all functions of chapter 19 that have a disk as an argument and may fail.
func stage11Checks(disk []string, k int64) []any {
	walks, walksCode := impl.WalksOf(disk)
	owners, ownersCode := impl.OwnersOf(disk)
	lost, lostCode := impl.LostBlocks(disk)
	chains, chainsCode := impl.LostChains(disk)
	few, fewCode := impl.EntryProblems(disk, k)
	all, allCode := impl.CheckChains(disk)
	return []any{walksCode, walks, ownersCode, owners, lostCode, lost, chainsCode, chains, fewCode, few, allCode, all}
}

// stage11Mends returns the results of all functions of chapter 20, each with a code before it.
func stage11Mends(disk, other []string, prefix string) []any {
	name, nameCode := impl.SpareName(disk, prefix)
	entries, emptied, renamed, entriesCode := impl.MendEntries(disk)
	links, linkCount, linksCode := impl.MendLinks(disk)
	lengths, lengthCount, lengthsCode := impl.MendLengths(disk)
	lost, found, freed, lostCode := impl.MendLost(disk)
	mended, count, mendedCode := impl.MendChains(disk)
	sound, soundCode := impl.SoundFiles(disk)
	kept, keptCode := impl.KeptFiles(disk, other)
	small, smallCode := impl.CompactChains(disk)
	return []any{
		nameCode, name, entriesCode, entries, entriesCode, emptied, entriesCode, renamed, linksCode, links, linksCode, linkCount, lengthsCode, lengths, lengthsCode, lengthCount,
		lostCode, lost, lostCode, found, lostCode, freed, mendedCode, mended, mendedCode, count, soundCode, sound, keptCode, kept, smallCode, small,
	}
}

// oddChains are disks that are not as they should be, and lists that are no disks.
func oddChains(t *testing.T) [][]string {
	from := source(420)
	list := oddDisks(t)
	for range 40 {
		list = append(list, from.messedChains(t))
	}
	// All links, and all numbers of entries, are as large as they can be.
	for _, l := range chainShapes() {
		x := plainChainsOf(newChains(t, l.Blocks, l.Size))
		for block := range x.blocks {
			x.setLink(int64(block), 255-block%3)
		}
		for k := range x.entries {
			copy(x.bytesOf(k), "ABCDEFGH\xff\x02\x00\x01")
		}
		list = append(list, x.disk())
	}
	return list
}

func TestP1Checks(t *testing.T) {
	prefixes := append(oddStrings(), "DUP", "LOST", "ABCDEF", "ABCDEFG", "A_9", "DUP ", "dup")
	numbers := append(oddNumbers(), 3, 5, 8, 9, 15, 16, 17)
	all := oddChains(t)
	for i, disk := range all {
		for j, n := range numbers {
			if j%5 != i%5 {
				continue
			}
			prefix, other := prefixes[(i+j)%len(prefixes)], all[(i+7*j)%len(all)]
			results := func() []any {
				return append(append(stage11Checks(disk, n), stage11Mends(disk, other, prefix)...), impl.CleanChains(disk))
			}
			got := results()
			if !reflect.DeepEqual(got, results()) {
				t.Errorf("other results for disk %d, %d and %.40q", i, n, prefix)
			}
			alone(t, "chapters 19 and 20", got[:len(got)-1]...)
		}
	}
}

func TestP1TextsOfProblems(t *testing.T) {
	for _, s := range append(oddStrings(), "loop 1 9", "lost 0 "+strings.Repeat("0", 1<<16), strings.Repeat("loop 1 9 ", 5000), "range "+strings.Repeat("9", 1<<16)+" 1") {
		x, ok := impl.ReadProblem(s)
		y, again := impl.ReadProblem(s)
		is(t, "problem", []any{x, ok}, []any{y, again})
		is(t, "no problem", ok || x == impl.ChainProblem{}, true)
	}
	for _, kind := range oddNumbers() {
		for _, entry := range oddNumbers() {
			for _, block := range oddNumbers() {
				x := impl.ChainProblem{Kind: kind, Entry: entry, Block: block}
				is(t, "text", impl.ProblemText(x), impl.ProblemText(x))
			}
		}
	}
}

func TestP1CheckedDisksAreUnchanged(t *testing.T) {
	for i, disk := range oddChains(t) {
		short, all := filled(disk, "room")
		other, allOthers := filled(chainsWith(t, 64, 16, "A 40", "B 9"), "room")
		before, beforeOthers := slices.Clone(all), slices.Clone(allOthers)
		stage11Checks(short, int64(i%17)-1)
		stage11Mends(short, other, "DUP")
		stage11Mends(other, short, "LOST")
		is(t, "disk "+strconv.Itoa(i), slices.Equal(all, before) && slices.Equal(allOthers, beforeOthers), true)
	}
}

func TestP1ResultsOfChecksShareNoMemory(t *testing.T) {
	disk := chainsLike(t, "11-12-13-E 20-21-12 30-31-30 40-E 10-11", "A 11 16", "?", "B 20 48", "A 0 5", "C 0 0")
	clean := chainsWith(t, 64, 16, "A 40", "B 9")
	want, wantClean := slices.Clone(disk), slices.Clone(clean)
	lists := func() [][]string {
		a, _, _, _ := impl.MendEntries(disk)
		b, _, _ := impl.MendLinks(disk)
		c, _, _ := impl.MendLengths(disk)
		d, _, _, _ := impl.MendLost(linked(clean, "40-E"))
		e, _, _ := impl.MendChains(disk)
		f, _, _, _ := impl.MendEntries(clean)
		g, _, _ := impl.MendLinks(clean)
		h, _, _ := impl.MendLengths(clean)
		i, _, _, _ := impl.MendLost(clean)
		j, _, _ := impl.MendChains(clean)
		k, _ := impl.CompactChains(clean)
		l, _ := impl.KeptFiles(clean, clean)
		return [][]string{a, b, c, d, e, f, g, h, i, j, k, l}
	}
	numbers := func() [][]int64 {
		walks, _ := impl.WalksOf(disk)
		again, _ := impl.WalksOf(disk)
		owners, _ := impl.OwnersOf(disk)
		lost, _ := impl.LostBlocks(disk)
		chains, _ := impl.LostChains(disk)
		return append(chains, walks[0].Blocks, walks[2].Blocks, again[0].Blocks, again[2].Blocks, owners, lost)
	}
	problems := func() [][]impl.ChainProblem {
		a, _ := impl.CheckChains(disk)
		b, _ := impl.EntryProblems(disk, 2)
		c, _ := impl.EntryProblems(disk, 2)
		return [][]impl.ChainProblem{a, b, c}
	}
	files := func() [][]impl.File {
		a, _ := impl.SoundFiles(clean)
		b, _ := impl.SoundFiles(clean)
		return [][]impl.File{a, b}
	}
	walks := func() [][]impl.ChainWalk {
		a, _ := impl.WalksOf(disk)
		b, _ := impl.WalksOf(disk)
		return [][]impl.ChainWalk{a, b}
	}
	results := func() []any { return []any{lists(), numbers(), problems(), files(), walks()} }
	before := results()
	spoil(t, lists())
	spoil(t, numbers())
	spoil(t, problems())
	spoil(t, files())
	spoil(t, walks())
	chains, _ := impl.LostChains(disk)
	spoil(t, [][][]int64{chains})
	is(t, "arguments", []any{disk, clean}, []any{want, wantClean})
	is(t, "later results", results(), before)
}

func TestP1NilAndEmptyCheckedDisksAreAlike(t *testing.T) {
	disk := chainsWith(t, 16, 16, "A 5")
	is(t, "checks", stage11Checks(nil, 0), stage11Checks([]string{}, 0))
	is(t, "mends", stage11Mends(nil, disk, "DUP"), stage11Mends([]string{}, disk, "DUP"))
	is(t, "mends", stage11Mends(disk, nil, "DUP"), stage11Mends(disk, []string{}, "DUP"))
}

func TestP1MendingAtTheSameTime(t *testing.T) {
	var wait sync.WaitGroup
	got := make([]string, 8)
	from := source(421)
	disks := [][]string{}
	for range 30 {
		disks = append(disks, from.messedChains(t))
	}
	for i := range got {
		wait.Go(func() {
			for _, disk := range disks {
				problems, _ := impl.CheckChains(disk)
				after, _, _ := impl.MendChains(disk)
				small, _ := impl.CompactChains(after)
				names, _ := impl.KeptFiles(disk, small)
				got[i] += problemText(problems) + strings.Join(slices.Concat(after, small, names), "")
			}
		})
	}
	wait.Wait()
	for _, s := range got {
		is(t, "mended disks", s == got[0] && s != "", true)
	}
}

// stage12Chains returns the results of all functions of chapter 21 for disks with chains, each behind its code.
func stage12Chains(disk []string, k int64) []any {
	gone, goneCode := impl.GoneChains(disk)
	blocks, blocksCode := impl.GoneBlocks(disk, k)
	after, afterCode := impl.UndeleteChain(disk, k)
	return []any{goneCode, gone, blocksCode, blocks, afterCode, after}
}

// stage12Extents returns those for disks with extents.
func stage12Extents(disk []string, name string) []any {
	gone, goneCode := impl.GoneExtents(disk)
	after, afterCode := impl.UndeleteExtents(disk, name)
	return []any{goneCode, gone, afterCode, after}
}

// stage12Carving returns those for all other disks.
func stage12Carving(disk []string, block int64, head, tail string, most int64) []any {
	one, oneCode := impl.CarveAt(disk, block, head, tail, most)
	all, allCode := impl.CarveAll(disk, head, tail, most)
	return []any{oneCode, one, allCode, all}
}

// stage12Systems returns the results of all functions of chapter 22 that may have a disk as an argument.
func stage12Systems(from int64, disk []string, to, blocks int64, list []impl.File) []any {
	files, filesCode := impl.FilesOfSystem(from, disk)
	made, madeCode := impl.MakeSystem(to, blocks, list)
	other, otherCode := impl.ConvertSystem(from, disk, to, blocks)
	kind, kindCode := impl.GuessSystem(disk)
	return []any{filesCode, files, madeCode, made, otherCode, other, kindCode, kind}
}

// stage12Lists returns those of all other functions of chapter 22.
func stage12Lists(a, b []impl.File, s string) []any {
	joined, joinedCode := impl.JoinFiles(a, b)
	names, ok := impl.ChangedFiles(a, b)
	list, isText := impl.ReadFiles(s)
	return []any{joinedCode, joined, ok, names, isText, list, true, impl.SameFiles(a, b), true, impl.FilesText(a)}
}

// oddSystems are disks of all kinds with deleted entries, damaged ones, and lists that are no disks.
func oddSystems(t *testing.T) [][]string {
	from := source(620)
	list := append(oddDisks(t), oddTrees(t)...)
	for i := range int64(30) {
		x := plainChainsOf(from.messedChains(t))
		for k := range x.entries {
			x.bytesOf(k)[11] = byte(1 + from.below(2))
		}
		y := plainExtentsOf(from.anyExtents(t, i%4))
		for k := range y.entries {
			y.bytesOf(k)[0] = []byte{0, 1, 229, 229}[from.below(4)]
		}
		list = append(list, x.disk(), y.disk())
	}
	return list
}

func TestP1GoneFiles(t *testing.T) {
	names := append(oddStrings(), "A", "B", "C", "D", "E")
	numbers := append(oddNumbers(), 3, 5, 8, 9, 15, 16, 17)
	for i, disk := range oddSystems(t) {
		for j, n := range numbers {
			name := names[(i+3*j)%len(names)]
			results := func() []any { return append(stage12Chains(disk, n), stage12Extents(disk, name)...) }
			got := results()
			if !reflect.DeepEqual(got, results()) {
				t.Errorf("other results for disk %d, %d and %.40q", i, n, name)
			}
			alone(t, "gone files", got...)
		}
	}
}

func TestP1Carving(t *testing.T) {
	texts := append(oddStrings(), "CH", "EX", "\x01", "\x00\x00", strings.Repeat("\x00", 600), strings.Repeat("x", impl.MaxBytes))
	numbers := append(oddNumbers(), 3, 5, 16, 31, 32, 33, 63, 64, 127, 128, 129)
	disks := append(oddSystems(t), slices.Repeat([]string{"x"}, 128), slices.Repeat([]string{"x"}, 129), slices.Repeat([]string{strings.Repeat("x", 64)}, 128), slices.Repeat([]string{strings.Repeat("x", 65)}, 128), []string{"<ab", "cd>", "xyz"}, []string{"1", "10", ""})
	for i, disk := range disks {
		for j, n := range numbers {
			head, tail, most := texts[(i+2*j)%len(texts)], texts[(3*i+j)%len(texts)], numbers[(i+5*j)%len(numbers)]
			for _, head := range []string{head, "x", "\x00"} {
				got := stage12Carving(disk, n, head, tail, most)
				if !reflect.DeepEqual(got, stage12Carving(disk, n, head, tail, most)) {
					t.Errorf("other results for disk %d, %d, %.40q and %.40q", i, n, head, tail)
				}
				alone(t, "carving", got...)
			}
		}
	}
	for i, s := range texts {
		for j, part := range texts {
			n := numbers[(i+j)%len(numbers)]
			is(t, "place", impl.PlaceOf(s, part, n), impl.PlaceOf(s, part, n))
		}
	}
}

// oddLists12 are lists of files, of which many are not valid.
func oddLists12() [][]impl.File {
	long := make([]impl.File, 100000)
	return append(invalidFiles(), nil, []impl.File{}, named("A"), named("A", "B", "C"), manyFiles(5), manyFiles(16), oddDiskFiles(), long, []impl.File{{Name: "A", Data: strings.Repeat("x", 512)}})
}

func TestP1Systems(t *testing.T) {
	kinds, numbers, lists := []int64{1, 2, 3, 0, 4}, append(oddNumbers(), 3, 5, 8, 9, 16, 40, 127, 128, 129), oddLists12()
	for i, disk := range oddSystems(t) {
		for j, n := range numbers {
			from, to, list := kinds[j%5], kinds[(i+j/5)%5], lists[(i+2*j)%len(lists)]
			if n == 1000 {
				from = math.MinInt64
			}
			got := stage12Systems(from, disk, to, n, list)
			if !reflect.DeepEqual(got, stage12Systems(from, disk, to, n, list)) {
				t.Errorf("other results for disk %d, %d, %d and %d", i, from, to, n)
			}
			alone(t, "systems", got...)
		}
	}
}

func TestP1Lists(t *testing.T) {
	lists := oddLists12()
	texts := append(oddStrings(), "A 31\n", "A -\nB 3132\n", "A 3g\n", strings.Repeat("A -\n", 50000), "A "+strings.Repeat("00", 1<<16)+"\n")
	for i, a := range lists {
		for j, b := range lists {
			s := texts[(i+j)%len(texts)]
			got := stage12Lists(a, b, s)
			if !reflect.DeepEqual(got, stage12Lists(a, b, s)) {
				t.Errorf("other results for lists %d and %d, and %.40q", i, j, s)
			}
			alone(t, "lists", got...)
		}
	}
}

func TestP1SystemsAreUnchanged(t *testing.T) {
	for i, disk := range oddSystems(t) {
		short, all := filled(disk, "room")
		before := slices.Clone(all)
		files, allFiles := filled(manyFiles(i%5), impl.File{Name: "ROOM"})
		others, allOthers := filled(manyFiles(7+i%5), impl.File{Name: "ROOM"})
		beforeFiles, beforeOthers := slices.Clone(allFiles), slices.Clone(allOthers)
		for k := int64(-1); k < 17; k++ {
			stage12Chains(short, k)
			stage12Extents(short, string(rune('A'+(k+1)%6)))
			stage12Carving(short, k, "x", "\x00", 2)
			stage12Systems(k%3+1, short, k%4, 8*k, files)
			stage12Lists(files, others, "A -\n")
			stage12Lists(others, files, "")
		}
		is(t, "disk "+strconv.Itoa(i), slices.Equal(all, before), true)
		is(t, "files", slices.Equal(allFiles, beforeFiles) && slices.Equal(allOthers, beforeOthers), true)
	}
}

func TestP1ResultsOfSystemsShareNoMemory(t *testing.T) {
	disk := chainsLike(t, "", "A 11 40 gone", "B 20 16 gone", "B 30 16 gone")
	other := extentsWith(t, 64, 16, goneExtent("A", 0, 16, 20, 21), goneExtent("B", 0, 0))
	full := systemWith(t, impl.FsTrees, 32, "A 40", "B 0", "C 5")
	a, b := filesOf("A 5", "B 9", "D 0"), filesOf("B 9", "C 5")
	want := []any{slices.Clone(disk), slices.Clone(other), slices.Clone(full), slices.Clone(a), slices.Clone(b)}
	names := func() [][]string {
		first, _ := impl.UndeleteChain(disk, 0)
		second, _ := impl.UndeleteChain(disk, 1)
		third, _ := impl.UndeleteExtents(other, "A")
		gone, _ := impl.GoneExtents(other)
		again, _ := impl.GoneExtents(other)
		made, _ := impl.MakeSystem(impl.FsChains, 24, a)
		empty, _ := impl.MakeSystem(impl.FsChains, 16, nil)
		same, _ := impl.ConvertSystem(impl.FsTrees, full, impl.FsTrees, 32)
		changed, _ := impl.ChangedFiles(a, b)
		return [][]string{first, second, third, gone, again, made, empty, same, changed}
	}
	numbers := func() [][]int64 {
		gone, _ := impl.GoneChains(disk)
		again, _ := impl.GoneChains(disk)
		blocks, _ := impl.GoneBlocks(disk, 0)
		others, _ := impl.GoneBlocks(disk, 0)
		return [][]int64{gone, again, blocks, others}
	}
	files := func() [][]impl.File {
		all, _ := impl.FilesOfSystem(impl.FsTrees, full)
		again, _ := impl.FilesOfSystem(impl.FsTrees, full)
		joined, _ := impl.JoinFiles(a, b)
		alone, _ := impl.JoinFiles(a, nil)
		behind, _ := impl.JoinFiles(nil, b)
		read, _ := impl.ReadFiles("A 31\nB -\n")
		return [][]impl.File{all, again, joined, alone, behind, read}
	}
	carved := func() [][]impl.Carved {
		first, _ := impl.CarveAll([]string{"<a>", "<b>"}, "<", ">", 1)
		second, _ := impl.CarveAll([]string{"<a>", "<b>"}, "<", ">", 1)
		return [][]impl.Carved{first, second}
	}
	results := func() []any { return []any{names(), numbers(), files(), carved()} }
	before := results()
	spoil(t, names())
	spoil(t, numbers())
	spoil(t, files())
	spoil(t, carved())
	is(t, "arguments", []any{disk, other, full, a, b}, want)
	is(t, "later results", results(), before)
}

func TestP1NilAndEmptySystemsAreAlike(t *testing.T) {
	none, empty := []string(nil), []string{}
	is(t, "chains", stage12Chains(none, 0), stage12Chains(empty, 0))
	is(t, "extents", stage12Extents(none, "A"), stage12Extents(empty, "A"))
	is(t, "carving", stage12Carving(none, 0, "A", "B", 1), stage12Carving(empty, 0, "A", "B", 1))
	for kind := int64(0); kind < 5; kind++ {
		is(t, "systems", stage12Systems(kind, none, 1, 16, nil), stage12Systems(kind, empty, 1, 16, []impl.File{}))
		is(t, "new systems", stage12Systems(1, none, kind, 16, nil), stage12Systems(1, none, kind, 16, []impl.File{}))
	}
	for _, list := range [][]impl.File{nil, named("A"), named("a")} {
		is(t, "lists", stage12Lists(nil, list, ""), stage12Lists([]impl.File{}, list, ""))
		is(t, "lists", stage12Lists(list, nil, ""), stage12Lists(list, []impl.File{}, ""))
	}
}

func TestP1ConvertingAtTheSameTime(t *testing.T) {
	var wait sync.WaitGroup
	got := make([]string, 8)
	disks, others := [][]string{}, [][]string{}
	from := source(621)
	for range 30 {
		disks, others = append(disks, from.anyChains(t, 0)), append(others, from.anyExtents(t, 0))
	}
	for i := range got {
		wait.Go(func() {
			for j, disk := range disks {
				for k := range int64(16) {
					if after, c := impl.UndeleteChain(disk, k); c == impl.OK {
						disk = after
					}
				}
				tree, _ := impl.ConvertSystem(impl.FsChains, disk, impl.FsTrees, 128)
				extents, _ := impl.ConvertSystem(impl.FsTrees, tree, impl.FsExtents, 128)
				first, _ := impl.FilesOfSystem(impl.FsExtents, extents)
				second, _ := impl.FilesOfSystem(impl.FsExtents, others[j])
				joined, _ := impl.JoinFiles(first, second)
				got[i] += strings.Join(slices.Concat(disk, tree, extents), "") + impl.FilesText(joined)
			}
		})
	}
	wait.Wait()
	for _, s := range got {
		is(t, "disks", s == got[0] && s != "", true)
	}
}

// stage13Groups returns the results of all functions of chapter 23 for a group, each behind its code.
func stage13Groups(blocks []string, p, q, before, after string, index int64) []any {
	madeP, madeQ, madeCode := impl.MakeParity(blocks)
	isRight, rightCode := impl.CheckParity(blocks, p, q)
	nextP, nextQ, nextCode := impl.UpdateParity(p, q, index, before, after)
	found, foundCode := impl.FindDamaged(blocks, p, q)
	return []any{madeCode, madeP, madeCode, madeQ, rightCode, isRight, nextCode, nextP, nextCode, nextQ, foundCode, found}
}

// stage13Lost returns those for a group of which blocks are lost.
func stage13Lost(blocks []string, lost []int64, p, q string, index int64) []any {
	one, oneCode := impl.RestoreOne(blocks, index, p)
	whole, wholeCode := impl.RestoreTwo(blocks, lost, p, q)
	return []any{oneCode, one, wholeCode, whole}
}

// oddGroups are groups and lists that are no groups.
func oddGroups() [][]string {
	from := source(720)
	list := append(noParityGroups(), oddStrings(), slices.Repeat([]string{zeros(64)}, 128))
	for _, count := range []int{1, 2, 3, 4, 127, 128, 129} {
		for _, size := range []int{1, 2, 3, 63, 64, 65} {
			list = append(list, from.group(count, size))
		}
	}
	return list
}

func oddLosses() [][]int64 {
	return [][]int64{nil, {}, {0}, {1}, {2}, {127}, {128}, {-1}, {0, 1}, {0, 2}, {1, 0}, {1, 1}, {1, 127}, {0, 1, 2}, upTo(128), upTo(129), upTo(100000), {math.MinInt64}, {math.MaxInt64}, {math.MinInt64, math.MaxInt64}, {0, math.MaxInt64}, make([]int64, 100000)}
}

func TestP1Field(t *testing.T) {
	numbers := append(oddNumbers(), 3, 128, 142, 254, 255, 256, 257, 285, -255, -256)
	for _, a := range numbers {
		for _, b := range numbers {
			results := func() []int64 { return []int64{impl.GfMul(a, b), impl.GfPow(a), impl.GfInverse(b)} }
			got := results()
			is(t, "results", got, results())
			is(t, "elements", got[0]>>8 == 0 && got[1]>>8 == 0 && got[2]>>8 == 0, true)
		}
	}
}

func TestP1Parity(t *testing.T) {
	texts := append(oddStrings(), "ab", "abc", zeros(63), zeros(64), zeros(65))
	numbers := append(oddNumbers(), 3, 127, 128, 255, 256)
	losses := oddLosses()
	for i, blocks := range oddGroups() {
		p, q, _ := impl.MakeParity(blocks)
		for j, s := range texts {
			for k, pair := range [][2]string{{p, q}, {s, q}, {p, s}, {s, s}, {"", q}, {p, ""}, {s, texts[(i+j)%len(texts)]}} {
				n, before := numbers[(i+j+5*k)%len(numbers)], texts[(i+2*j+k)%len(texts)]
				lost := losses[(2*i+j+3*k)%len(losses)]
				results := func() []any {
					return append(stage13Groups(blocks, pair[0], pair[1], before, s, n), stage13Lost(blocks, lost, pair[0], pair[1], n)...)
				}
				got := results()
				if !reflect.DeepEqual(got, results()) {
					t.Errorf("other results for group %d, %.40q and %.40q", i, pair[0], pair[1])
				}
				alone(t, "parity", got...)
			}
		}
	}
}

func TestP1GroupsAreUnchanged(t *testing.T) {
	for i, blocks := range oddGroups() {
		short, all := filled(blocks, "room")
		before := slices.Clone(all)
		p, q, _ := impl.MakeParity(short)
		for _, list := range oddLosses() {
			lost, allLost := filled(list, 77)
			beforeLost := slices.Clone(allLost)
			for _, pair := range [][2]string{{p, q}, {"", q}, {p, ""}, {q, p}} {
				stage13Groups(short, pair[0], pair[1], p, q, 1)
				stage13Lost(short, lost, pair[0], pair[1], 1)
			}
			is(t, "indices", slices.Equal(allLost, beforeLost), true)
		}
		is(t, "group "+strconv.Itoa(i), slices.Equal(all, before), true)
	}
}

func TestP1ResultsOfParityShareNoMemory(t *testing.T) {
	blocks, lost := []string{"abc", "def", "ghi"}, []int64{0, 2}
	p, q, _ := impl.MakeParity(blocks)
	want := []any{slices.Clone(blocks), slices.Clone(lost)}
	results := func() [][]string {
		none, _ := impl.RestoreTwo(blocks, nil, p, q)
		again, _ := impl.RestoreTwo(blocks, nil, "", "")
		one, _ := impl.RestoreTwo(blocks, lost[:1], p, q)
		other, _ := impl.RestoreTwo(blocks, lost[1:], "", q)
		two, _ := impl.RestoreTwo(blocks, lost, p, q)
		return [][]string{none, again, one, other, two}
	}
	before := results()
	spoil(t, results())
	is(t, "arguments", []any{blocks, lost}, want)
	is(t, "later results", results(), before)
}

func TestP1NilAndEmptyGroupsAreAlike(t *testing.T) {
	for _, n := range []int64{-1, 0, 1} {
		for _, s := range []string{"", "a"} {
			is(t, "groups", stage13Groups(nil, s, s, s, s, n), stage13Groups([]string{}, s, s, s, s, n))
			is(t, "no group", stage13Lost(nil, nil, s, s, n), stage13Lost([]string{}, []int64{}, s, s, n))
			is(t, "nothing is lost", stage13Lost([]string{"a"}, nil, s, s, n), stage13Lost([]string{"a"}, []int64{}, s, s, n))
		}
	}
}

func TestP1ParityAtTheSameTime(t *testing.T) {
	var wait sync.WaitGroup
	got := make([]string, 8)
	groups := [][]string{}
	from := source(721)
	for range 20 {
		groups = append(groups, from.group(int(2+from.below(127)), int(1+from.below(64))))
	}
	for i := range got {
		wait.Go(func() {
			for _, blocks := range groups {
				p, q, _ := impl.MakeParity(blocks)
				whole, _ := impl.RestoreTwo(blocks, []int64{0, int64(len(blocks) - 1)}, p, q)
				nextP, nextQ, _ := impl.UpdateParity(p, q, 1, blocks[1], blocks[0])
				found, _ := impl.FindDamaged(whole, nextP, nextQ)
				got[i] += p + q + strings.Join(whole, "") + nextP + nextQ + strconv.FormatInt(found, 10)
			}
		})
	}
	wait.Wait()
	for _, s := range got {
		is(t, "parity and groups", s == got[0] && s != "", true)
	}
}
