package tests

import (
	"math"
	"strconv"
	"strings"
	"testing"

	"loop.example/g00899/impl"
)

func sampleFlux() impl.Flux { return impl.Flux{Cell: 10, First: 15, Gaps: []int64{10, 20, 40}} }

// sameFlux compares flux with what is expected, and requires OK.
func sameFlux(t *testing.T, what string, got impl.Flux, gotCode int64, want impl.Flux) {
	t.Helper()
	code(t, what, gotCode, impl.OK)
	if !impl.SameFlux(got, want) {
		t.Errorf("%s: got %s, want %s", what, brief(got), brief(want))
	}
	if gotCode == impl.OK && !impl.ValidFlux(got) {
		t.Errorf("%s: not valid: %s", what, brief(got))
	}
}

// noFlux requires an error and the zero value.
func noFlux(t *testing.T, what string, got impl.Flux, gotCode, want int64) {
	t.Helper()
	code(t, what, gotCode, want)
	if !impl.SameFlux(got, impl.Flux{}) {
		t.Errorf("%s: not the zero value: %s", what, brief(got))
	}
}

func TestP3Constants(t *testing.T) {
	is(t, "constants", []int64{impl.MaxCells, impl.MaxGaps, impl.MaxTicks, impl.MinCell, impl.MaxCell}, []int64{8000, 4000, 2000000, 4, 200})
}

func TestP3ValidCells(t *testing.T) {
	for _, s := range []string{"0", "1", "01", "000", strings.Repeat("0", impl.MaxCells), strings.Repeat("1", impl.MaxCells)} {
		is(t, "cells", impl.ValidCells(s), true)
	}
	for _, s := range []string{"", "2", "/", " ", "01 ", "012", "0a", "01\x00", "0\xff", "0\u0661", strings.Repeat("0", impl.MaxCells+1), strings.Repeat("1", impl.MaxCells-1) + "2"} {
		is(t, "no cells", impl.ValidCells(s), false)
	}
}

func TestP3ValidFlux(t *testing.T) {
	valid := []impl.Flux{
		sampleFlux(),
		{Cell: impl.MinCell, First: 0, Gaps: []int64{1}},
		{Cell: impl.MaxCell, First: 39, Gaps: []int64{10, 20, 40}},
		{Cell: 10, First: impl.MaxTicks - 1, Gaps: []int64{impl.MaxTicks}},
		{Cell: 10, First: 0, Gaps: []int64{1, impl.MaxTicks - 1}},
		{Cell: 10, First: 0, Gaps: ones(impl.MaxGaps, 1)},
		{Cell: 10, First: 0, Gaps: ones(impl.MaxGaps, impl.MaxTicks-impl.MaxGaps+1)},
	}
	for _, f := range valid {
		is(t, "valid flux", impl.ValidFlux(f), true)
	}
	const most = math.MaxInt64
	invalid := []impl.Flux{
		{},
		{Cell: 10},
		{Cell: 10, Gaps: []int64{}},
		{Cell: impl.MinCell - 1, Gaps: []int64{9}},
		{Cell: impl.MaxCell + 1, Gaps: []int64{9}},
		{Cell: -10, Gaps: []int64{9}},
		{Cell: most, Gaps: []int64{9}},
		{Cell: 10, First: -1, Gaps: []int64{9}},
		{Cell: 10, First: 9, Gaps: []int64{9}},
		{Cell: 10, First: 9, Gaps: []int64{40, 9}},
		{Cell: 10, First: most, Gaps: []int64{9}},
		{Cell: 10, First: math.MinInt64, Gaps: []int64{9}},
		{Cell: 10, Gaps: []int64{0, 9}},
		{Cell: 10, Gaps: []int64{9, 0, 9}},
		{Cell: 10, Gaps: []int64{9, 0}},
		{Cell: 10, Gaps: []int64{9, -1, 9}},
		{Cell: 10, Gaps: []int64{impl.MaxTicks + 1}},
		{Cell: 10, Gaps: []int64{1, impl.MaxTicks}},
		{Cell: 10, Gaps: []int64{most, most, 9}},
		{Cell: 10, Gaps: []int64{1 << 62, 1 << 62, 1 << 62, 1 << 62, 9}},
		{Cell: 10, Gaps: []int64{math.MinInt64, math.MinInt64, 9}},
		{Cell: 10, Gaps: ones(impl.MaxGaps+1, 9)},
	}
	for i, f := range invalid {
		is(t, "invalid flux "+strconv.Itoa(i), impl.ValidFlux(f), false)
	}
}

func TestP3SameFlux(t *testing.T) {
	f := sampleFlux()
	is(t, "same", impl.SameFlux(f, sampleFlux()), true)
	for i, g := range []impl.Flux{
		{Cell: 11, First: 15, Gaps: []int64{10, 20, 40}},
		{Cell: 10, First: 16, Gaps: []int64{10, 20, 40}},
		{Cell: 10, First: 15, Gaps: []int64{10, 20, 41}},
		{Cell: 10, First: 15, Gaps: []int64{11, 20, 40}},
		{Cell: 10, First: 15, Gaps: []int64{10, 20}},
		{Cell: 10, First: 15, Gaps: []int64{10, 20, 40, 0}},
		{Cell: 10, First: 15},
	} {
		is(t, "others "+strconv.Itoa(i), []bool{impl.SameFlux(f, g), impl.SameFlux(g, f), impl.SameFlux(g, g)}, []bool{false, false, true})
	}
	is(t, "no gaps", impl.SameFlux(impl.Flux{}, impl.Flux{Gaps: []int64{}}), true)
	bad := impl.Flux{Cell: -1, First: -2, Gaps: []int64{-3, 0}}
	is(t, "same and invalid", impl.SameFlux(bad, impl.Flux{Cell: -1, First: -2, Gaps: []int64{-3, 0}}), true)
}

// plainChanges follows the document: a change in the middle of each cell that is 1.
func plainChanges(cells string, cell int64) []int64 {
	var list []int64
	for i := range len(cells) {
		if cells[i] == '1' {
			list = append(list, int64(i)*cell+cell/2)
		}
	}
	return list
}

func TestP3FluxOf(t *testing.T) {
	f, c := impl.FluxOf("0100", 10)
	sameFlux(t, "example", f, c, impl.Flux{Cell: 10, First: 15, Gaps: []int64{40}})
	f, c = impl.FluxOf("0110100", 10)
	sameFlux(t, "three changes", f, c, sampleFlux())
	f, c = impl.FluxOf("11", 5)
	sameFlux(t, "odd cells", f, c, impl.Flux{Cell: 5, First: 2, Gaps: []int64{5, 5}})
	f, c = impl.FluxOf("1", impl.MinCell)
	sameFlux(t, "a cell", f, c, impl.Flux{Cell: 4, First: 2, Gaps: []int64{4}})
	f, c = impl.FluxOf(strings.Repeat("0", impl.MaxCells-1)+"1", impl.MaxCell)
	sameFlux(t, "the last cell", f, c, impl.Flux{Cell: 200, First: 7999*200 + 100, Gaps: []int64{8000 * 200}})
	from := source(6)
	for range 200 {
		cells, cell := from.cells(int(1+from.below(60)), 3)+"1", 4+from.below(197)
		f, c := impl.FluxOf(cells, cell)
		code(t, "cells", c, impl.OK)
		is(t, "changes", impl.ChangesOf(f), plainChanges(cells, cell))
		is(t, "revolution", impl.RevolutionOf(f), int64(len(cells))*cell)
		is(t, "cell", f.Cell, cell)
	}
}

func TestP3FluxOfErrors(t *testing.T) {
	half := strings.Repeat("1", impl.MaxGaps)
	f, c := impl.FluxOf(half+strings.Repeat("0", impl.MaxCells-impl.MaxGaps), impl.MaxCell)
	code(t, "as many changes as there may be", c, impl.OK)
	is(t, "number of gaps", len(f.Gaps), impl.MaxGaps)
	for _, wrong := range []struct {
		cells string
		cell  int64
		want  int64
	}{
		{half + "1", 10, impl.ErrFull},
		{strings.Repeat("1", impl.MaxCells), 10, impl.ErrFull},
		{"0", 10, impl.ErrState},
		{"000", 10, impl.ErrState},
		{strings.Repeat("0", impl.MaxCells), 10, impl.ErrState},
		{"", 10, impl.ErrInvalid},
		{"012", 10, impl.ErrInvalid},
		{"1 ", 10, impl.ErrInvalid},
		{strings.Repeat("1", impl.MaxCells+1), 10, impl.ErrInvalid},
		{"1", impl.MinCell - 1, impl.ErrInvalid},
		{"1", impl.MaxCell + 1, impl.ErrInvalid},
		{"1", math.MaxInt64, impl.ErrInvalid},
		{"1", math.MinInt64, impl.ErrInvalid},
		{"000", 3, impl.ErrInvalid},
		{half + "1", 201, impl.ErrInvalid},
	} {
		f, c := impl.FluxOf(wrong.cells, wrong.cell)
		noFlux(t, "cells and "+strconv.FormatInt(wrong.cell, 10), f, c, wrong.want)
	}
}

func TestP3RevolutionAndChanges(t *testing.T) {
	is(t, "revolution", impl.RevolutionOf(sampleFlux()), int64(70))
	is(t, "changes", impl.ChangesOf(sampleFlux()), []int64{15, 25, 45})
	f := impl.Flux{Cell: 10, First: 0, Gaps: []int64{1}}
	is(t, "a tick", impl.RevolutionOf(f), int64(1))
	is(t, "a change at the index", impl.ChangesOf(f), []int64{0})
	f = impl.Flux{Cell: 10, First: 0, Gaps: []int64{impl.MaxTicks}}
	is(t, "longest revolution", impl.RevolutionOf(f), int64(impl.MaxTicks))
	for _, bad := range []impl.Flux{{}, {Cell: 10, First: 9, Gaps: []int64{9}}, {Cell: 3, Gaps: []int64{9}}} {
		is(t, "revolution of invalid flux", impl.RevolutionOf(bad), int64(-1))
		is(t, "changes of invalid flux", len(impl.ChangesOf(bad)), 0)
	}
}

func TestP3RotateCells(t *testing.T) {
	const cells = "0110100"
	for by, want := range map[int64]string{0: cells, 1: "1101000", 5: "0001101", 6: "0011010", 7: cells, 8: "1101000", -1: "0011010", -2: "0001101", -7: cells, -8: "0011010", math.MaxInt64: "0110100", math.MinInt64: "0011010"} {
		got, ok := impl.RotateCells(cells, by)
		is(t, "by "+strconv.FormatInt(by, 10), []any{got, ok}, []any{want, true})
	}
	got, ok := impl.RotateCells("1", math.MinInt64)
	is(t, "a cell", []any{got, ok}, []any{"1", true})
	for _, bad := range []string{"", "012", strings.Repeat("1", impl.MaxCells+1)} {
		got, ok := impl.RotateCells(bad, 1)
		is(t, "no cells", []any{got, ok}, []any{"", false})
	}
}

func TestP3CellsAndFluxTurnAlike(t *testing.T) {
	from := source(7)
	for range 40 {
		cells, cell := from.cells(int(1+from.below(30)), 4)+"1", 4+from.below(30)
		f, _ := impl.FluxOf(cells, cell)
		for by := range int64(len(cells)) {
			turned, ok := impl.RotateCells(cells, by)
			is(t, "cells are turned", ok, true)
			want, _ := impl.FluxOf(turned, cell)
			got, c := impl.RotateFlux(f, by*cell)
			sameFlux(t, cells+" by "+strconv.FormatInt(by, 10), got, c, want)
		}
	}
}

func TestP3RotateFluxByEachTick(t *testing.T) {
	for _, f := range []impl.Flux{sampleFlux(), {Cell: 10, First: 0, Gaps: []int64{3, 1, 9}}, {Cell: 10, First: 12, Gaps: []int64{13}}, {Cell: 10, First: 0, Gaps: []int64{1}}} {
		revolution := impl.RevolutionOf(f)
		for by := range revolution {
			// A change is met at each time at which one was met before, less by.
			met := map[int64]bool{}
			for _, at := range impl.ChangesOf(f) {
				met[(at+revolution-by)%revolution] = true
			}
			var want []int64
			for at := range revolution {
				if met[at] {
					want = append(want, at)
				}
			}
			got, c := impl.RotateFlux(f, by)
			code(t, "turned", c, impl.OK)
			is(t, "valid", impl.ValidFlux(got), true)
			is(t, "changes", impl.ChangesOf(got), want)
			is(t, "revolution and cell", []int64{impl.RevolutionOf(got), got.Cell}, []int64{revolution, f.Cell})
			back, c := impl.RotateFlux(got, (revolution-by)%revolution)
			sameFlux(t, "turned back", back, c, f)
		}
	}
}

func TestP3RotateFluxOverTheIndex(t *testing.T) {
	for by, want := range map[int64]impl.Flux{
		0:  sampleFlux(),
		14: {Cell: 10, First: 1, Gaps: []int64{10, 20, 40}},
		15: {Cell: 10, First: 0, Gaps: []int64{10, 20, 40}},
		16: {Cell: 10, First: 9, Gaps: []int64{20, 40, 10}},
		20: {Cell: 10, First: 5, Gaps: []int64{20, 40, 10}},
		45: {Cell: 10, First: 0, Gaps: []int64{40, 10, 20}},
		46: {Cell: 10, First: 39, Gaps: []int64{10, 20, 40}},
		69: {Cell: 10, First: 16, Gaps: []int64{10, 20, 40}},
	} {
		got, c := impl.RotateFlux(sampleFlux(), by)
		sameFlux(t, "by "+strconv.FormatInt(by, 10), got, c, want)
	}
	for _, by := range []int64{-1, 70, 71, math.MinInt64, math.MaxInt64} {
		got, c := impl.RotateFlux(sampleFlux(), by)
		noFlux(t, "out of range", got, c, impl.ErrRange)
	}
	for _, by := range []int64{-1, 0, 70} {
		got, c := impl.RotateFlux(impl.Flux{Cell: 10, First: 40, Gaps: []int64{10, 20, 40}}, by)
		noFlux(t, "invalid flux", got, c, impl.ErrInvalid)
	}
}

func TestP3ScaleFlux(t *testing.T) {
	f := sampleFlux()
	for _, scale := range []struct {
		num, den int64
		want     impl.Flux
	}{
		{1, 1, f},
		{1000, 1000, f},
		{2, 1, impl.Flux{Cell: 10, First: 30, Gaps: []int64{20, 40, 80}}},
		// The times 15, 25, 45 and 70 become 5, 8, 15 and 23.
		{1, 3, impl.Flux{Cell: 10, First: 5, Gaps: []int64{3, 7, 13}}},
		{1, 10, impl.Flux{Cell: 10, First: 1, Gaps: []int64{1, 2, 4}}},
		{1, 11, impl.Flux{Cell: 10, First: 1, Gaps: []int64{1, 2, 3}}},
		{999, 1000, impl.Flux{Cell: 10, First: 14, Gaps: []int64{10, 20, 39}}},
		{1000, 1, impl.Flux{Cell: 10, First: 15000, Gaps: []int64{10000, 20000, 40000}}},
	} {
		got, c := impl.ScaleFlux(f, scale.num, scale.den)
		sameFlux(t, "scaled", got, c, scale.want)
	}
	got, c := impl.ScaleFlux(impl.Flux{Cell: 4, First: 0, Gaps: []int64{impl.MaxTicks / 1000}}, 1000, 1)
	sameFlux(t, "longest revolution", got, c, impl.Flux{Cell: 4, First: 0, Gaps: []int64{impl.MaxTicks}})
	got, c = impl.ScaleFlux(impl.Flux{Cell: 4, First: impl.MaxTicks - 1, Gaps: []int64{impl.MaxTicks}}, 1000, 1000)
	sameFlux(t, "greatest times", got, c, impl.Flux{Cell: 4, First: impl.MaxTicks - 1, Gaps: []int64{impl.MaxTicks}})
}

func TestP3ScaleFluxTimes(t *testing.T) {
	from := source(8)
	for range 200 {
		f, _ := impl.FluxOf(from.cells(20, 3)+"1", 100)
		num, den := 500+from.below(501), 500+from.below(501)
		got, c := impl.ScaleFlux(f, num, den)
		code(t, "scaled", c, impl.OK)
		var want []int64
		for _, at := range impl.ChangesOf(f) {
			want = append(want, at*num/den)
		}
		is(t, "changes", impl.ChangesOf(got), want)
		is(t, "revolution and cell", []int64{impl.RevolutionOf(got), got.Cell}, []int64{2100 * num / den, 100})
	}
}

func TestP3ScaleFluxErrors(t *testing.T) {
	f := sampleFlux()
	for _, scale := range [][2]int64{{0, 1}, {1, 0}, {-1, 1}, {1, -1}, {-1, -1}, {1001, 1}, {1, 1001}, {1001, 1001}, {math.MaxInt64, 1}, {1, math.MinInt64}} {
		got, c := impl.ScaleFlux(f, scale[0], scale[1])
		noFlux(t, "no scale", got, c, impl.ErrRange)
		got, c = impl.ScaleFlux(impl.Flux{}, scale[0], scale[1])
		noFlux(t, "invalid flux and no scale", got, c, impl.ErrInvalid)
	}
	for _, scale := range []struct {
		f        impl.Flux
		num, den int64
	}{
		{f, 1, 1000},
		{f, 1, 15}, // the times become 1, 1, 3 and 4
		{impl.Flux{Cell: 4, First: 2, Gaps: []int64{1, 9}}, 1, 2},
		{impl.Flux{Cell: 4, First: 2, Gaps: []int64{4, 3}}, 1, 2}, // the revolution meets the last change
		{impl.Flux{Cell: 4, First: 0, Gaps: []int64{1}}, 1, 2},
		{impl.Flux{Cell: 4, First: 0, Gaps: []int64{impl.MaxTicks/2 + 1}}, 2, 1},
		{impl.Flux{Cell: 4, First: 0, Gaps: []int64{impl.MaxTicks}}, 1000, 1},
		{impl.Flux{Cell: 4, First: 0, Gaps: []int64{impl.MaxTicks}}, 1000, 999},
	} {
		got, c := impl.ScaleFlux(scale.f, scale.num, scale.den)
		noFlux(t, "result is not valid", got, c, impl.ErrRange)
	}
	got, c := impl.ScaleFlux(impl.Flux{Cell: 10, First: 40, Gaps: []int64{10, 20, 40}}, 1, 1)
	noFlux(t, "invalid flux", got, c, impl.ErrInvalid)
}

func TestP3SpliceCells(t *testing.T) {
	for _, splice := range []struct {
		cells string
		at    int64
		part  string
		want  string
	}{
		{"0110100", 5, "111", "1110111"},
		{"0110100", 0, "1", "1110100"},
		{"0110100", 6, "1", "0110101"},
		{"0110100", 4, "011", "0110011"},
		{"0110100", 6, "10", "0110101"},
		{"0110100", 0, "1001011", "1001011"},
		{"0110100", 3, "1111000", "0001111"},
		{"0", 0, "1", "1"},
	} {
		got, c := impl.SpliceCells(splice.cells, splice.at, splice.part)
		code(t, "splice", c, impl.OK)
		is(t, "spliced", got, splice.want)
	}
	from := source(9)
	for range 300 {
		cells := from.cells(int(1+from.below(20)), 2)
		part := from.cells(int(1+from.below(int64(len(cells)))), 2)
		at := from.below(int64(len(cells)))
		got, c := impl.SpliceCells(cells, at, part)
		code(t, "splice", c, impl.OK)
		turned, _ := impl.RotateCells(got, at)
		before, _ := impl.RotateCells(cells, at)
		is(t, "the part and nothing else", turned, part+before[len(part):])
	}
}

func TestP3SpliceCellsErrors(t *testing.T) {
	for _, splice := range []struct {
		cells string
		at    int64
		part  string
		want  int64
	}{
		{"0110", -1, "1", impl.ErrRange},
		{"0110", 4, "1", impl.ErrRange},
		{"0110", math.MaxInt64, "1", impl.ErrRange},
		{"0110", math.MinInt64, "1", impl.ErrRange},
		{"0110", 0, "11111", impl.ErrRange},
		{"0110", 3, "11111", impl.ErrRange},
		{"", 0, "1", impl.ErrInvalid},
		{"0110", 0, "", impl.ErrInvalid},
		{"0112", 0, "1", impl.ErrInvalid},
		{"0110", 0, "a", impl.ErrInvalid},
		{"0110", 4, "a", impl.ErrInvalid},
		{"0112", -1, "1", impl.ErrInvalid},
		{"0110", 0, "1111x", impl.ErrInvalid},
		{strings.Repeat("0", impl.MaxCells+1), 0, "1", impl.ErrInvalid},
		{"0", 0, strings.Repeat("0", impl.MaxCells+1), impl.ErrInvalid},
	} {
		got, c := impl.SpliceCells(splice.cells, splice.at, splice.part)
		code(t, "splice", c, splice.want)
		is(t, "nothing", got, "")
	}
}

func TestP3FluxText(t *testing.T) {
	is(t, "text", impl.FluxText(sampleFlux()), "10 15 10 20 40")
	is(t, "a change", impl.FluxText(impl.Flux{Cell: 200, First: 0, Gaps: []int64{impl.MaxTicks}}), "200 0 2000000")
	is(t, "text of invalid flux", impl.FluxText(impl.Flux{Cell: 10, First: 40, Gaps: []int64{10, 20, 40}}), "")
	is(t, "text of no flux", impl.FluxText(impl.Flux{}), "")
	list := []impl.Flux{sampleFlux(), {Cell: 4, Gaps: []int64{1}}, {Cell: 200, First: impl.MaxTicks - 1, Gaps: []int64{impl.MaxTicks}}, {Cell: 9, First: 1, Gaps: ones(impl.MaxGaps, 9)}}
	from := source(10)
	for range 100 {
		f, _ := impl.FluxOf(from.cells(40, 3)+"1", 4+from.below(197))
		list = append(list, f)
	}
	for _, f := range list {
		back, ok := impl.ReadFlux(impl.FluxText(f))
		is(t, "flux is read", ok, true)
		is(t, "flux", impl.SameFlux(back, f), true)
	}
}

func TestP3ReadFluxOfOtherTexts(t *testing.T) {
	for _, s := range []string{
		"", " ", "10", "10 15", "10 15 ", "10  15 10 20 40", " 10 15 10 20 40", "10 15 10 20 40 ", "10 15 10 20 40\n", "10\t15 10 20 40", "10,15,10,20,40",
		"010 15 10 20 40", "10 015 10 20 40", "10 15 10 20 040", "10 00 40", "+10 15 10 20 40", "10 +15 10 20 40", "10 -0 40", "10 15 10 20 4_0", "10 15 10 20 40.0", "10 15 10 20 4e1", "0xa 15 10 20 40", "a 15 10 20 40",
		"10 15 10 \xff 40", "10 15 10 20 4\u0660", "10\u00a015 10 20 40", "10 15 10 20 \uff14\uff10",
		"3 15 10 20 40", "201 15 10 20 40", "10 40 10 20 40", "10 -1 10 20 40", "10 15 10 0 40", "10 15 10 -20 40", "10 15  40", "10 15 10 20 2000000", "10 0 2000001",
		"18446744073709551626 15 10 20 40", "10 18446744073709551631 10 20 40", "10 15 10 20 18446744073709551656", "10 15 4294967336",
		"10 15 10 20 " + strings.Repeat("0", 40) + "40", strings.Repeat("9", 10000), strings.Repeat("10 ", 10000),
		impl.FluxText(impl.Flux{Cell: 10, First: 0, Gaps: ones(impl.MaxGaps, 1)}) + " 1",
	} {
		f, ok := impl.ReadFlux(s)
		if ok || !impl.SameFlux(f, impl.Flux{}) {
			t.Errorf("text %.60q: got %s, %v", s, brief(f), ok)
		}
	}
}
