package tests

import (
	"math"
	"slices"
	"strconv"
	"strings"
	"testing"

	"loop.example/g00899/impl"
)

func sampleClock() impl.Clock { return impl.Clock{Cell: 10, Low: 8, High: 12, Phase: 2, Speed: 4} }

func plain(cell int64) impl.Clock { return impl.Clock{Cell: cell, Low: cell, High: cell} }

func TestP4Constants(t *testing.T) {
	is(t, "constants", []int64{impl.Unit, impl.MaxInGap, impl.MaxPart}, []int64{64, 100, 64})
}

func TestP4ValidClock(t *testing.T) {
	for i, c := range []impl.Clock{
		sampleClock(),
		plain(impl.MinCell),
		plain(impl.MaxCell),
		{Cell: 4, Low: 2, High: 400, Phase: 64, Speed: 64},
		{Cell: 200, Low: 2, High: 200, Phase: 1},
		{Cell: 200, Low: 200, High: 400, Speed: 1},
	} {
		is(t, "clock "+strconv.Itoa(i), impl.ValidClock(c), true)
	}
	for i, c := range invalidClocks() {
		is(t, "no clock "+strconv.Itoa(i), impl.ValidClock(c), false)
	}
}

func invalidClocks() []impl.Clock {
	const least, most = math.MinInt64, math.MaxInt64
	return []impl.Clock{
		{},
		plain(impl.MinCell - 1), plain(impl.MaxCell + 1), plain(-10), plain(least), plain(most),
		{Cell: 10, Low: 1, High: 12}, {Cell: 10, Low: 11, High: 12}, {Cell: 10, Low: 0, High: 12}, {Cell: 10, Low: least, High: 12}, {Cell: 10, Low: most, High: 12},
		{Cell: 10, Low: 8, High: 9}, {Cell: 10, Low: 8, High: 401}, {Cell: 10, Low: 8, High: least}, {Cell: 10, Low: 8, High: most},
		{Cell: 10, Low: 8, High: 12, Phase: -1}, {Cell: 10, Low: 8, High: 12, Phase: 65}, {Cell: 10, Low: 8, High: 12, Phase: least}, {Cell: 10, Low: 8, High: 12, Phase: most},
		{Cell: 10, Low: 8, High: 12, Speed: -1}, {Cell: 10, Low: 8, High: 12, Speed: 65}, {Cell: 10, Low: 8, High: 12, Speed: least}, {Cell: 10, Low: 8, High: 12, Speed: most},
	}
}

func TestP4PlainClockAndStartClock(t *testing.T) {
	for cell := int64(impl.MinCell); cell <= impl.MaxCell; cell++ {
		c, made := impl.PlainClock(cell)
		is(t, "plain clock", []any{c, made}, []any{plain(cell), int64(impl.OK)})
		x, started := impl.StartClock(c)
		is(t, "state", []any{x, started}, []any{impl.Locked{Period: cell * 64}, int64(impl.OK)})
	}
	for _, cell := range []int64{impl.MinCell - 1, impl.MaxCell + 1, 0, -10, math.MinInt64, math.MaxInt64} {
		c, made := impl.PlainClock(cell)
		is(t, "no plain clock", []any{c, made}, []any{impl.Clock{}, int64(impl.ErrRange)})
	}
	x, started := impl.StartClock(impl.Clock{Cell: 10, Low: 2, High: 400, Phase: 1, Speed: 1})
	is(t, "state of a clock that corrects", []any{x, started}, []any{impl.Locked{Period: 640}, int64(impl.OK)})
	for _, c := range invalidClocks() {
		x, started := impl.StartClock(c)
		is(t, "state of no clock", []any{x, started}, []any{impl.Locked{}, int64(impl.ErrInvalid)})
	}
}

// step is a call of StepClock and what it returns.
type step struct {
	c     impl.Clock
	x     impl.Locked
	gap   int64
	cells int64
	next  impl.Locked
	code  int64
}

func checkSteps(t *testing.T, what string, list []step) {
	t.Helper()
	for i, s := range list {
		n, next, code := impl.StepClock(s.c, s.x, s.gap)
		is(t, what+" "+strconv.Itoa(i), []any{n, next, code}, []any{s.cells, s.next, s.code})
	}
}

func TestP4StepClock(t *testing.T) {
	c := sampleClock()
	start := impl.Locked{Period: 640}
	checkSteps(t, "step", []step{
		{c, start, 23, 2, impl.Locked{Period: 664, Offset: 96}, impl.OK}, // the error is 192
		{c, start, 20, 2, start, impl.OK},
		{c, start, 18, 2, impl.Locked{Period: 624, Offset: -64}, impl.OK},
		{plain(10), start, 14, 1, impl.Locked{Period: 640, Offset: 256}, impl.OK},
		{plain(10), impl.Locked{Period: 640, Offset: 256}, 16, 2, start, impl.OK},
		{impl.Clock{Cell: 10, Low: 8, High: 12, Phase: 1}, start, 13, 1, start, impl.OK},
		{impl.Clock{Cell: 10, Low: 8, High: 12, Speed: 64}, start, 13, 1, impl.Locked{Period: 643, Offset: 192}, impl.OK},
		{impl.Clock{Cell: 10, Low: 8, High: 12, Phase: 64}, start, 13, 1, impl.Locked{Period: 640, Offset: 189}, impl.OK},
	})
}

func TestP4StepClockRounds(t *testing.T) {
	wide := impl.Clock{Cell: 10, Low: 2, High: 400}
	odd := impl.Locked{Period: 641}
	third := impl.Clock{Cell: 10, Low: 2, High: 400, Phase: 3, Speed: 3}
	checkSteps(t, "number of cells", []step{
		{wide, impl.Locked{Period: 640}, 15, 2, impl.Locked{Period: 640, Offset: -320}, impl.OK}, // exactly half of a cell
		{wide, impl.Locked{Period: 640, Offset: -1}, 15, 1, impl.Locked{Period: 640, Offset: 319}, impl.OK},
		{wide, impl.Locked{Period: 641, Offset: 1}, 15, 1, impl.Locked{Period: 641, Offset: 320}, impl.OK},
		{wide, impl.Locked{Period: 641, Offset: 2}, 15, 2, impl.Locked{Period: 641, Offset: -320}, impl.OK}, // half of 641 is 320
		{wide, odd, 1, 1, impl.Locked{Period: 641, Offset: -577}, impl.OK},
		{wide, impl.Locked{Period: 641, Offset: -641}, 1, 1, impl.Locked{Period: 641, Offset: -641}, impl.OK}, // behind less than no cells
		{wide, impl.Locked{Period: 25600, Offset: -25600}, 390, 1, impl.Locked{Period: 25600, Offset: -25600}, impl.OK},
	})
	checkSteps(t, "corrections", []step{
		{third, impl.Locked{Period: 640, Offset: 4}, 10, 1, impl.Locked{Period: 641, Offset: 3}, impl.OK},
		{third, impl.Locked{Period: 640, Offset: -4}, 10, 1, impl.Locked{Period: 639, Offset: -3}, impl.OK}, // toward zero
		{third, impl.Locked{Period: 640, Offset: 5}, 10, 1, impl.Locked{Period: 641, Offset: 4}, impl.OK},
		{third, impl.Locked{Period: 640, Offset: -5}, 10, 1, impl.Locked{Period: 639, Offset: -4}, impl.OK},
		{third, impl.Locked{Period: 640, Offset: 5}, 20, 2, impl.Locked{Period: 640, Offset: 4}, impl.OK}, // 5 / (2 * 3)
		{third, impl.Locked{Period: 640, Offset: -5}, 20, 2, impl.Locked{Period: 640, Offset: -4}, impl.OK},
		{third, impl.Locked{Period: 640, Offset: 7}, 20, 2, impl.Locked{Period: 641, Offset: 5}, impl.OK},
		{third, impl.Locked{Period: 640, Offset: -7}, 20, 2, impl.Locked{Period: 639, Offset: -5}, impl.OK},
	})
}

func TestP4StepClockBounds(t *testing.T) {
	fast := impl.Clock{Cell: 10, Low: 8, High: 12, Speed: 1}
	both := impl.Clock{Cell: 10, Low: 8, High: 12, Phase: 2, Speed: 1}
	checkSteps(t, "bounds", []step{
		{fast, impl.Locked{Period: 640}, 12, 1, impl.Locked{Period: 768, Offset: 128}, impl.OK}, // reaches High exactly
		{fast, impl.Locked{Period: 640}, 13, 1, impl.Locked{Period: 768, Offset: 192}, impl.OK},
		{fast, impl.Locked{Period: 640}, 8, 1, impl.Locked{Period: 512, Offset: -128}, impl.OK}, // reaches Low exactly
		{fast, impl.Locked{Period: 640}, 7, 1, impl.Locked{Period: 512, Offset: -192}, impl.OK},
		{fast, impl.Locked{Period: 640, Offset: -640}, 12, 1, impl.Locked{Period: 512, Offset: -512}, impl.OK}, // the offset keeps to the new period
		{fast, impl.Locked{Period: 640, Offset: -640}, 1, 1, impl.Locked{Period: 512, Offset: -512}, impl.OK},
		{both, impl.Locked{Period: 640, Offset: -640}, 1, 1, impl.Locked{Period: 512, Offset: -512}, impl.OK},
		{both, impl.Locked{Period: 640, Offset: -640}, 4, 1, impl.Locked{Period: 512, Offset: -512}, impl.OK},
		{both, impl.Locked{Period: 640, Offset: -640}, 5, 1, impl.Locked{Period: 512, Offset: -480}, impl.OK},
	})
}

func TestP4StepClockErrors(t *testing.T) {
	c := sampleClock()
	start, none := impl.Locked{Period: 640}, impl.Locked{}
	checkSteps(t, "far", []step{
		{plain(10), start, 1004, 100, impl.Locked{Period: 640, Offset: 256}, impl.OK},
		{plain(10), start, 1005, 0, none, impl.ErrDamaged},
		{c, start, 1010, 0, none, impl.ErrDamaged},
		{c, start, impl.MaxTicks, 0, none, impl.ErrDamaged},
	})
	checkSteps(t, "limits", []step{
		{c, impl.Locked{Period: 512, Offset: 512}, 1, 1, impl.Locked{Period: 528, Offset: 32}, impl.OK},
		{c, impl.Locked{Period: 768, Offset: -768}, 12, 1, impl.Locked{Period: 576, Offset: -384}, impl.OK},
	})
	var wrong []step
	for _, gap := range []int64{0, -1, impl.MaxTicks + 1, math.MinInt64, math.MaxInt64} {
		wrong = append(wrong, step{c, start, gap, 0, none, impl.ErrInvalid})
	}
	for _, x := range []impl.Locked{{}, {Period: 511}, {Period: 769}, {Period: -640}, {Period: math.MaxInt64}, {Period: math.MinInt64}, {Period: 640, Offset: 641}, {Period: 640, Offset: -641}, {Period: 640, Offset: math.MaxInt64}, {Period: 640, Offset: math.MinInt64}, {Period: math.MinInt64, Offset: math.MinInt64}} {
		wrong = append(wrong, step{c, x, 10, 0, none, impl.ErrInvalid}, step{c, x, 1010, 0, none, impl.ErrInvalid})
	}
	for _, bad := range invalidClocks() {
		wrong = append(wrong, step{bad, start, 10, 0, none, impl.ErrInvalid}, step{bad, none, 1010, 0, none, impl.ErrInvalid})
	}
	checkSteps(t, "invalid", wrong)
}

// down divides and rounds down.
func down(a, b int64) int64 {
	return int64(math.Floor(float64(a) / float64(b)))
}

// plainStep follows the words of the document; it also returns the error.
func plainStep(c impl.Clock, x impl.Locked, gap int64) (int64, int64, impl.Locked) {
	g := gap*64 + x.Offset
	n := down(g+down(x.Period, 2), x.Period)
	if n < 1 {
		n = 1
	}
	e := g - n*x.Period
	next := impl.Locked{Period: x.Period, Offset: e}
	if c.Phase != 0 {
		next.Offset = e - int64(math.Trunc(float64(e)/float64(c.Phase)))
	}
	if c.Speed != 0 {
		next.Period += int64(math.Trunc(float64(e) / float64(n*c.Speed)))
	}
	if next.Period < c.Low*64 {
		next.Period = c.Low * 64
	}
	if next.Period > c.High*64 {
		next.Period = c.High * 64
	}
	if next.Offset < -next.Period {
		next.Offset = -next.Period
	}
	if next.Offset > next.Period {
		next.Offset = next.Period
	}
	return n, e, next
}

func (s *source) clock() impl.Clock {
	cell := impl.MinCell + s.below(impl.MaxCell-impl.MinCell+1)
	c := impl.Clock{Cell: cell, Low: 2 + s.below(cell-1), High: cell + s.below(401-cell)}
	if s.below(3) > 0 {
		c.Phase = s.below(9)
	}
	if s.below(3) > 0 {
		c.Speed = s.below(9)
	}
	return c
}

func TestP4StepClockAsInTheDocument(t *testing.T) {
	from := source(20)
	for range 20000 {
		c := from.clock()
		x := impl.Locked{Period: c.Low*64 + from.below((c.High-c.Low)*64+1)}
		x.Offset = from.below(2*x.Period+1) - x.Period
		gap := 1 + from.below(12*c.Cell)
		n, e, next := plainStep(c, x, gap)
		want := []any{n, next, int64(impl.OK)}
		if n > 100 {
			want = []any{int64(0), impl.Locked{}, int64(impl.ErrDamaged)}
		}
		gotCells, gotNext, gotCode := impl.StepClock(c, x, gap)
		is(t, "step with the error "+strconv.FormatInt(e, 10), []any{gotCells, gotNext, gotCode}, want)
	}
}

// plainState is the state of a clock at the first change.
func plainState(c impl.Clock, first int64) impl.Locked {
	x := impl.Locked{Period: c.Cell * 64}
	if c.Phase == 0 {
		x.Offset = 64 * (first%c.Cell - down(c.Cell, 2))
	}
	return x
}

// plainRun returns the cells and the errors of all gaps, or a code.
func plainRun(f impl.Flux, c impl.Clock) ([]int64, []int64, int64) {
	var cells, errors []int64
	x := plainState(c, f.First)
	for _, gap := range f.Gaps {
		_, e, _ := plainStep(c, x, gap)
		n, next, code := impl.StepClock(c, x, gap)
		if code != impl.OK {
			return nil, nil, code
		}
		cells, errors, x = append(cells, n), append(errors, e), next
	}
	return cells, errors, impl.OK
}

// plainCells returns the track whose gaps have these cells.
func plainCells(cells []int64, lead int64) string {
	track := strings.Repeat("0", int(lead)) + "1"
	for i, n := range cells {
		if i < len(cells)-1 {
			track += strings.Repeat("0", int(n-1)) + "1"
		} else if n-1 > lead {
			track += strings.Repeat("0", int(n-1-lead))
		}
	}
	return track
}

func plainCounts(cells []int64) []int64 {
	counts := make([]int64, 9)
	for _, n := range cells {
		if n > 8 {
			n = 0
		}
		counts[n]++
	}
	return counts
}

func TestP4RecoveringExecutesTheSteps(t *testing.T) {
	from := source(21)
	met := map[int64]int{}
	for range 3000 {
		c := from.clock()
		f := impl.Flux{Cell: c.Cell}
		for range 1 + from.below(20) {
			longest := 12 * c.Cell
			if from.below(40) == 0 {
				longest = 200 * c.Cell
			}
			f.Gaps = append(f.Gaps, 1+from.below(longest))
		}
		f.First = from.below(f.Gaps[len(f.Gaps)-1])
		cells, errors, want := plainRun(f, c)
		met[want]++
		track, code := impl.RecoverCells(f, c)
		gotErrors, errorsCode := impl.ClockErrors(f, c)
		counts, countsCode := impl.GapCounts(f, c)
		is(t, "codes", []int64{code, errorsCode, countsCode}, []int64{want, want, want})
		if want != impl.OK {
			is(t, "nothing", []int{len(track), len(gotErrors), len(counts)}, []int{0, 0, 0})
			continue
		}
		is(t, "cells", track, plainCells(cells, f.First/c.Cell))
		is(t, "errors", gotErrors, errors)
		is(t, "counts", counts, plainCounts(cells))
	}
	is(t, "tracks that are recovered and tracks that are not", met[impl.OK] > 1000 && met[impl.ErrDamaged] > 100, true)
}

func TestP4RecoverCells(t *testing.T) {
	phase := impl.Clock{Cell: 10, Low: 8, High: 12, Phase: 2}
	for i, r := range []struct {
		f      impl.Flux
		c      impl.Clock
		cells  string
		errors []int64
	}{
		{sampleFlux(), plain(10), "0110100", []int64{0, 0, 0}},
		{impl.Flux{Cell: 10, First: 15, Gaps: []int64{14, 16, 40}}, plain(10), "0110100", []int64{256, 0, 0}},
		{impl.Flux{Cell: 99, First: 15, Gaps: []int64{14, 16, 40}}, plain(10), "0110100", []int64{256, 0, 0}}, // the cell of the flux does not matter
		{impl.Flux{Cell: 10, First: 19, Gaps: []int64{10, 20, 40}}, plain(10), "0110100", []int64{256, 256, 256}},
		{impl.Flux{Cell: 10, First: 10, Gaps: []int64{10, 20, 40}}, plain(10), "0110100", []int64{-320, -320, -320}},
		{impl.Flux{Cell: 10, First: 19, Gaps: []int64{10, 20, 40}}, phase, "0110100", []int64{0, 0, 0}},                                                // a clock that corrects starts without an offset
		{impl.Flux{Cell: 10, First: 9, Gaps: []int64{12, 20, 40}}, impl.Clock{Cell: 10, Low: 8, High: 12, Speed: 1}, "101010000", []int64{-256, 0, 0}}, // without a phase it starts with the offset
		{impl.Flux{Cell: 5, First: 4, Gaps: []int64{5, 15}}, plain(5), "1100", []int64{128, 128}},                                                      // half of an odd cell
		{impl.Flux{Cell: 10, First: 13, Gaps: []int64{14}}, phase, "01", []int64{256}},                                                                 // a last gap of a cell
		{impl.Flux{Cell: 10, First: 0, Gaps: []int64{40}}, phase, "1000", []int64{0}},
		{impl.Flux{Cell: 10, First: 19, Gaps: []int64{20}}, phase, "01", []int64{0}},
		{impl.Flux{Cell: 10, First: 20, Gaps: []int64{40}}, phase, "0010", []int64{0}},
	} {
		track, code := impl.RecoverCells(r.f, r.c)
		errors, errorsCode := impl.ClockErrors(r.f, r.c)
		is(t, "recovered "+strconv.Itoa(i), []any{track, code}, []any{r.cells, int64(impl.OK)})
		is(t, "errors "+strconv.Itoa(i), []any{errors, errorsCode}, []any{r.errors, int64(impl.OK)})
	}
}

// moves returns the changes of cells, each moved by some ticks, as flux.
func moves(cells string, cell int64, by func() int64) impl.Flux {
	list := plainChanges(cells, cell)
	for i := range list {
		list[i] += by()
	}
	f, _ := impl.FluxOfTimes(list, int64(len(cells))*cell, cell)
	return f
}

func TestP4PlainClockRecoversMovedChanges(t *testing.T) {
	from := source(22)
	for cell := int64(impl.MinCell); cell <= impl.MaxCell; cell++ {
		most := (cell - 1) / 2 // less than half of a cell
		c, _ := impl.PlainClock(cell)
		for _, by := range []func() int64{
			func() int64 { return 0 },
			func() int64 { return most },
			func() int64 { return -most },
			func() int64 { return from.below(2*most+1) - most },
			func() int64 { return (2*from.below(2) - 1) * most },
		} {
			cells := from.cells(int(1+from.below(80)), 3) + "1" + from.cells(int(from.below(9)), 3)
			f := moves(cells, cell, by)
			is(t, "flux", impl.ValidFlux(f), true)
			got, code := impl.RecoverCells(f, c)
			is(t, "cells of "+strconv.FormatInt(cell, 10)+" ticks", []any{got, code}, []any{cells, int64(impl.OK)})
		}
	}
}

func TestP4RecoverCellsOfWholeTracks(t *testing.T) {
	from := source(23)
	full := "1" + strings.Repeat("0", 99)
	for _, cells := range []string{"1", "10", "01", strings.Repeat("1", impl.MaxGaps), strings.Repeat("01", impl.MaxCells/2), strings.Repeat(full, impl.MaxCells/100), from.cells(impl.MaxCells-1, 4) + "1"} {
		for _, cell := range []int64{impl.MinCell, 5, 10, impl.MaxCell} {
			f, _ := impl.FluxOf(cells, cell)
			got, code := impl.RecoverCells(f, plain(cell))
			is(t, "cells", []any{got, code}, []any{cells, int64(impl.OK)})
		}
	}
}

func TestP4RecoverCellsErrors(t *testing.T) {
	gaps := slices.Repeat([]int64{1000}, 80) // 8000 cells of ten ticks
	far := append(slices.Repeat([]int64{1000}, 90), 1010)
	for i, r := range []struct {
		f    impl.Flux
		c    impl.Clock
		want int64
		run  int64 // the code of ClockErrors and GapCounts
	}{
		{impl.Flux{Cell: 10, First: 5, Gaps: gaps}, plain(10), impl.OK, impl.OK},
		{impl.Flux{Cell: 10, First: 995, Gaps: gaps}, plain(10), impl.OK, impl.OK},
		{impl.Flux{Cell: 10, First: 5, Gaps: append(slices.Clone(gaps), 10)}, plain(10), impl.ErrFull, impl.OK},
		{impl.Flux{Cell: 10, First: 5, Gaps: append([]int64{10}, gaps...)}, plain(10), impl.ErrFull, impl.OK},
		{impl.Flux{Cell: 10, First: 5, Gaps: far}, plain(10), impl.ErrDamaged, impl.ErrDamaged},
		{impl.Flux{Cell: 10, First: 5, Gaps: []int64{1004}}, plain(10), impl.OK, impl.OK},
		{impl.Flux{Cell: 10, First: 5, Gaps: []int64{1005}}, plain(10), impl.ErrDamaged, impl.ErrDamaged},
		{impl.Flux{Cell: 10, First: 6, Gaps: []int64{1004}}, plain(10), impl.ErrDamaged, impl.ErrDamaged}, // the offset counts
		{impl.Flux{Cell: 10, First: 5, Gaps: []int64{1010, 10}}, plain(10), impl.ErrDamaged, impl.ErrDamaged},
		{impl.Flux{Cell: 10, First: 39999, Gaps: []int64{10, 10, 10, 40000}}, impl.Clock{Cell: 5, Low: 2, High: 400, Speed: 1}, impl.ErrDamaged, impl.ErrDamaged},
		{impl.Flux{}, plain(10), impl.ErrInvalid, impl.ErrInvalid},
		{impl.Flux{Cell: 10, First: 1010, Gaps: []int64{1010}}, plain(10), impl.ErrInvalid, impl.ErrInvalid},
		{sampleFlux(), impl.Clock{}, impl.ErrInvalid, impl.ErrInvalid},
		{impl.Flux{Cell: 10, First: 5, Gaps: far}, impl.Clock{Cell: 10, Low: 11, High: 12}, impl.ErrInvalid, impl.ErrInvalid},
	} {
		what := "flux " + strconv.Itoa(i)
		cells, got := impl.RecoverCells(r.f, r.c)
		code(t, what, got, r.want)
		is(t, what, got == impl.OK, cells != "")
		errors, got := impl.ClockErrors(r.f, r.c)
		code(t, what, got, r.run)
		is(t, what, got == impl.OK, len(errors) == len(r.f.Gaps) && errors != nil)
		counts, got := impl.GapCounts(r.f, r.c)
		code(t, what, got, r.run)
		is(t, what, got == impl.OK, len(counts) == 9)
	}
}

// A clock that has slowed down makes few cells of a last gap, of which the zeros before the first change may be many.
func TestP4RecoverCellsWithManyZerosAtFirst(t *testing.T) {
	c := impl.Clock{Cell: 4, Low: 4, High: 400, Phase: 1, Speed: 1}
	var gaps []int64
	for gap := int64(5); gap <= 400; gap += gap / 4 {
		gaps = append(gaps, gap, gap)
	}
	f := impl.Flux{Cell: 4, First: 31000, Gaps: append(gaps, 31001)}
	cells, errors, want := plainRun(f, c)
	code(t, "steps", want, impl.OK)
	track, got := impl.RecoverCells(f, c)
	is(t, "track", []any{track, got}, []any{plainCells(cells, 7750), int64(impl.OK)})
	is(t, "the last gap has fewer cells", cells[len(cells)-1] < 7750 && track[len(track)-1] == '1', true)
	f.First, f.Gaps[len(f.Gaps)-1] = 32000, 32001 // 8000 zeros and a one
	track, got = impl.RecoverCells(f, c)
	is(t, "too many zeros", []any{track, got}, []any{"", int64(impl.ErrFull)})
	list, got := impl.ClockErrors(f, c)
	is(t, "errors of all gaps", []any{len(list), got}, []any{len(errors), int64(impl.OK)})
}

func TestP4GapCounts(t *testing.T) {
	for i, r := range []struct {
		f    impl.Flux
		want []int64
	}{
		{impl.Flux{Cell: 10, First: 15, Gaps: []int64{14, 16, 40}}, []int64{0, 1, 1, 0, 1, 0, 0, 0, 0}},
		{impl.Flux{Cell: 10, First: 5, Gaps: []int64{10, 20, 30, 40, 50, 60, 70, 80, 90, 100, 1000}}, []int64{3, 1, 1, 1, 1, 1, 1, 1, 1}},
		{impl.Flux{Cell: 10, First: 5, Gaps: []int64{80, 80, 84}}, []int64{0, 0, 0, 0, 0, 0, 0, 0, 3}},
		{impl.Flux{Cell: 10, First: 5, Gaps: []int64{85}}, []int64{1, 0, 0, 0, 0, 0, 0, 0, 0}},
		{impl.Flux{Cell: 10, First: 0, Gaps: []int64{1}}, []int64{0, 1, 0, 0, 0, 0, 0, 0, 0}},
	} {
		counts, code := impl.GapCounts(r.f, plain(10))
		is(t, "counts "+strconv.Itoa(i), []any{counts, code}, []any{r.want, int64(impl.OK)})
	}
}

// plainGuess compares all lengths with fractions.
func plainGuess(gaps []int64) int64 {
	best, least := int64(0), [2]int64{}
	for c := int64(4); c <= 200; c++ {
		sum := int64(0)
		for _, gap := range gaps {
			nearest := int64(math.MaxInt64)
			for _, m := range []int64{gap / c, gap/c + 1} {
				if m > 0 {
					nearest = min(nearest, max(gap-m*c, m*c-gap))
				}
			}
			sum += nearest
		}
		if best == 0 || sum*least[1] < least[0]*c || sum*least[1] == least[0]*c && c > best {
			best, least = c, [2]int64{sum, c}
		}
	}
	return best
}

func TestP4GuessCell(t *testing.T) {
	for _, g := range []struct {
		gaps []int64
		want int64
	}{
		{[]int64{24, 36, 12}, 12},
		{[]int64{10, 20, 30, 11}, 10},
		{[]int64{200}, 200},
		{[]int64{201}, 67},
		{[]int64{4}, 4},
		{[]int64{5}, 5},
		{[]int64{1}, 4},
		{[]int64{1, 1}, 4},
		{[]int64{199}, 199},
		{[]int64{211}, 106}, // 1/106 is less than 1/105 and 1/70
		{[]int64{impl.MaxTicks}, 200},
		{[]int64{400, 4}, 4},
		{[]int64{400, 402}, 200},
	} {
		cell, code := impl.GuessCell(impl.Flux{Cell: 10, Gaps: g.gaps})
		is(t, "length", []int64{cell, code, plainGuess(g.gaps)}, []int64{g.want, impl.OK, g.want})
	}
	from := source(24)
	for range 300 {
		gaps := make([]int64, 1+from.below(6))
		for i := range gaps {
			gaps[i] = 1 + from.below(1+from.below(600))
		}
		cell, code := impl.GuessCell(impl.Flux{Cell: 4, Gaps: gaps})
		is(t, "length", []int64{cell, code}, []int64{plainGuess(gaps), impl.OK})
	}
	for _, f := range []impl.Flux{{}, {Cell: 10, Gaps: []int64{0}}, {Cell: 3, Gaps: []int64{12}}, {Cell: 10, First: 12, Gaps: []int64{12}}} {
		cell, code := impl.GuessCell(f)
		is(t, "invalid flux", []int64{cell, code}, []int64{0, impl.ErrInvalid})
	}
}

func TestP4GuessCellOfTracks(t *testing.T) {
	from := source(25)
	for cell := int64(impl.MinCell); cell <= 100; cell++ {
		f, _ := impl.FluxOf("11101001"+from.cells(50, 2), cell)
		got, code := impl.GuessCell(f)
		is(t, "length", []int64{got, code}, []int64{cell, impl.OK})
	}
}
