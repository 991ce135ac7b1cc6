package tests

import (
	"math"
	"slices"
	"strconv"
	"testing"

	"loop.example/g00899/impl"
)

// threeChanges is the flux of the document's example, with changes at 5, 15 and 25 ticks.
func threeChanges() impl.Flux { return impl.Flux{Cell: 10, First: 5, Gaps: []int64{10, 10, 20}} }

// changed requires flux with the cell of threeChanges, these changes and this revolution.
func changed(t *testing.T, what string, got impl.Flux, gotCode, revolution int64, changes ...int64) {
	t.Helper()
	code(t, what, gotCode, impl.OK)
	is(t, what, impl.ChangesOf(got), changes)
	is(t, what, []int64{impl.RevolutionOf(got), got.Cell}, []int64{revolution, 10})
}

// evenly returns flux with so many changes, each some ticks after the one before.
func evenly(count int, ticks int64) impl.Flux {
	return impl.Flux{Cell: 10, First: 0, Gaps: slices.Repeat([]int64{ticks}, count)}
}

// upTo returns the numbers from 0 to one less than count.
func upTo(count int) []int64 {
	list := make([]int64, count)
	for i := range list {
		list[i] = int64(i)
	}
	return list
}

func invalidFluxes() []impl.Flux {
	return []impl.Flux{{}, {Cell: 10}, {Cell: 3, Gaps: []int64{40}}, {Cell: 10, First: 20, Gaps: []int64{10, 10, 20}}, {Cell: 10, Gaps: []int64{40, 0}}, {Cell: 10, Gaps: []int64{math.MaxInt64, math.MaxInt64}}}
}

func invalidJitters() [][]int64 {
	return [][]int64{{51}, {-51}, {0, 0, 51}, {math.MaxInt64}, {math.MinInt64}, make([]int64, impl.MaxGaps+1)}
}

func invalidDrops() [][]int64 {
	return [][]int64{{-1}, {impl.MaxGaps}, {0, 0}, {1, 0}, {0, 2, 2}, {0, impl.MaxGaps}, {math.MaxInt64}, {math.MinInt64, 0}, {math.MaxInt64, math.MinInt64}}
}

func invalidSpans() []impl.Span {
	const most, least = math.MaxInt64, math.MinInt64
	return []impl.Span{
		{From: -1, To: 10}, {From: 11, To: 10}, {From: 0, To: -1}, {From: -2, To: -1}, {From: 0, To: impl.MaxTicks + 1}, {From: impl.MaxTicks + 1, To: impl.MaxTicks + 1},
		{From: least, To: least}, {From: least, To: 10}, {From: most, To: most}, {From: 0, To: most, Times: []int64{0}}, {From: 0, To: least},
		{From: 10, To: 20, Times: []int64{9}}, {From: 10, To: 20, Times: []int64{20}}, {From: 10, To: 20, Times: []int64{12, 12}}, {From: 10, To: 20, Times: []int64{13, 12}}, {From: 10, To: 20, Times: []int64{12, 20}}, {From: 10, To: 20, Times: []int64{most}}, {From: 10, To: 20, Times: []int64{least, 12}},
		{From: 10, To: 10, Times: []int64{10}}, {From: 0, To: 0, Times: []int64{0}},
	}
}

func TestP5Constants(t *testing.T) {
	is(t, "constants", []int64{impl.MaxJitter, impl.MaxDrift, impl.MaxSpans}, []int64{50, 100, 8})
}

func TestP5ValidNoise(t *testing.T) {
	eight := make([]impl.Span, impl.MaxSpans)
	for i, n := range []impl.Noise{
		{},
		{Drift: 100}, {Drift: -100},
		{Jitter: []int64{50, -50, 0}}, {Jitter: make([]int64, impl.MaxGaps)}, {Jitter: []int64{}},
		{Drops: []int64{0}}, {Drops: []int64{impl.MaxGaps - 1}}, {Drops: upTo(impl.MaxGaps)},
		{Weak: eight},
		{Weak: []impl.Span{{From: 0, To: impl.MaxTicks, Times: []int64{0, 1, impl.MaxTicks - 1}}}},
		{Weak: []impl.Span{{From: impl.MaxTicks, To: impl.MaxTicks}}},
		{Weak: []impl.Span{{From: 5, To: 10, Times: []int64{5, 9}}, {From: 10, To: 10}, {From: 10, To: 11, Times: []int64{10}}}},
	} {
		is(t, "noise "+strconv.Itoa(i), impl.ValidNoise(n), true)
	}
	for i, n := range invalidNoises() {
		is(t, "no noise "+strconv.Itoa(i), impl.ValidNoise(n), false)
	}
}

func invalidNoises() []impl.Noise {
	list := []impl.Noise{
		{Drift: 101}, {Drift: -101}, {Drift: math.MaxInt64}, {Drift: math.MinInt64},
		{Weak: make([]impl.Span, impl.MaxSpans+1)},
		{Weak: []impl.Span{{From: 5, To: 10}, {From: 9, To: 12}}},
		{Weak: []impl.Span{{From: 5, To: 10}, {From: 0, To: 4}}},
		{Weak: []impl.Span{{From: 5, To: 5}, {From: 20, To: 30}, {From: 29, To: 29}}},
	}
	for _, jitter := range invalidJitters() {
		list = append(list, impl.Noise{Jitter: jitter})
	}
	for _, drops := range invalidDrops() {
		list = append(list, impl.Noise{Drops: drops})
	}
	for _, w := range invalidSpans() {
		list = append(list, impl.Noise{Weak: []impl.Span{w}}, impl.Noise{Weak: []impl.Span{{}, w}})
	}
	return list
}

func TestP5FluxOfTimes(t *testing.T) {
	got, c := impl.FluxOfTimes([]int64{5, 15, 25}, 40, 10)
	sameFlux(t, "three times", got, c, threeChanges())
	got, c = impl.FluxOfTimes([]int64{0}, 1, 4)
	sameFlux(t, "a tick", got, c, impl.Flux{Cell: 4, First: 0, Gaps: []int64{1}})
	got, c = impl.FluxOfTimes([]int64{39}, 40, 10)
	sameFlux(t, "the last tick", got, c, impl.Flux{Cell: 10, First: 39, Gaps: []int64{40}})
	got, c = impl.FluxOfTimes([]int64{0, impl.MaxTicks - 1}, impl.MaxTicks, 200)
	sameFlux(t, "the longest revolution", got, c, impl.Flux{Cell: 200, First: 0, Gaps: []int64{impl.MaxTicks - 1, 1}})
	got, c = impl.FluxOfTimes(upTo(impl.MaxGaps), impl.MaxGaps, 10)
	sameFlux(t, "as many changes as there may be", got, c, evenly(impl.MaxGaps, 1))
	from := source(30)
	for range 300 {
		f, _ := impl.FluxOf(from.cells(int(1+from.below(60)), 3)+"1", 4+from.below(197))
		f, _ = impl.RotateFlux(f, from.below(impl.RevolutionOf(f)))
		got, c := impl.FluxOfTimes(impl.ChangesOf(f), impl.RevolutionOf(f), f.Cell)
		sameFlux(t, "flux of its times", got, c, f)
	}
}

func TestP5FluxOfTimesErrors(t *testing.T) {
	const most, least = math.MaxInt64, math.MinInt64
	for i, r := range []struct {
		times            []int64
		revolution, cell int64
		want             int64
	}{
		{nil, 40, 10, impl.ErrState},
		{[]int64{}, 40, 10, impl.ErrState},
		{nil, -1, 0, impl.ErrState}, // no times is the first error
		{nil, least, most, impl.ErrState},
		{[]int64{5, 5}, 40, 10, impl.ErrInvalid},
		{[]int64{5, 4}, 40, 10, impl.ErrInvalid},
		{[]int64{5, 15, 14}, 40, 10, impl.ErrInvalid},
		{[]int64{-1, 5}, 40, 10, impl.ErrInvalid},
		{[]int64{5, 40}, 40, 10, impl.ErrInvalid},
		{[]int64{40}, 40, 10, impl.ErrInvalid},
		{[]int64{most}, 40, 10, impl.ErrInvalid},
		{[]int64{least}, 40, 10, impl.ErrInvalid},
		{[]int64{least, most}, most, 10, impl.ErrInvalid},
		{[]int64{0}, 0, 10, impl.ErrInvalid},
		{[]int64{0}, -1, 10, impl.ErrInvalid},
		{[]int64{5}, least, 10, impl.ErrInvalid},
		{[]int64{5}, impl.MaxTicks + 1, 10, impl.ErrInvalid},
		{[]int64{5}, most, 10, impl.ErrInvalid},
		{[]int64{0, most - 1}, most, 10, impl.ErrInvalid},
		{[]int64{5}, 40, 3, impl.ErrInvalid},
		{[]int64{5}, 40, 201, impl.ErrInvalid},
		{[]int64{5}, 40, least, impl.ErrInvalid},
		{upTo(impl.MaxGaps + 1), impl.MaxTicks, 10, impl.ErrInvalid},
	} {
		f, c := impl.FluxOfTimes(r.times, r.revolution, r.cell)
		noFlux(t, "times "+strconv.Itoa(i), f, c, r.want)
	}
}

func TestP5AddDrift(t *testing.T) {
	for _, r := range []struct {
		drift      int64
		revolution int64
		changes    []int64
	}{
		{0, 40, []int64{5, 15, 25}},
		{100, 44, []int64{5, 16, 27}}, // 5.5, 16.5 and 27.5
		{-100, 36, []int64{4, 13, 22}},
		{1, 40, []int64{5, 15, 25}},
		{-1, 39, []int64{4, 14, 24}},
		{25, 41, []int64{5, 15, 25}},
	} {
		got, c := impl.AddDrift(threeChanges(), r.drift)
		changed(t, "drift "+strconv.FormatInt(r.drift, 10), got, c, r.revolution, r.changes...)
	}
	got, c := impl.AddDrift(evenly(3, 10), -100)
	changed(t, "gaps of nine ticks", got, c, 27, 0, 9, 18)
	got, c = impl.AddDrift(impl.Flux{Cell: 10, First: 1818180, Gaps: []int64{1818181}}, 100)
	changed(t, "almost the longest revolution", got, c, 1999999, 1999998)
	got, c = impl.AddDrift(impl.Flux{Cell: 10, Gaps: []int64{1818182}}, 100)
	changed(t, "the longest revolution", got, c, impl.MaxTicks, 0)
}

func TestP5AddDriftErrors(t *testing.T) {
	for _, drift := range []int64{101, -101, math.MaxInt64, math.MinInt64} {
		got, c := impl.AddDrift(threeChanges(), drift)
		noFlux(t, "no drift", got, c, impl.ErrInvalid)
	}
	for _, f := range invalidFluxes() {
		got, c := impl.AddDrift(f, 0)
		noFlux(t, "invalid flux", got, c, impl.ErrInvalid)
	}
	for i, r := range []struct {
		f     impl.Flux
		drift int64
	}{
		{impl.Flux{Cell: 10, Gaps: []int64{1818183}}, 100},
		{impl.Flux{Cell: 10, Gaps: []int64{impl.MaxTicks}}, 1},
		{impl.Flux{Cell: 10, First: 10, Gaps: []int64{1, 29}}, -100}, // two changes meet at 9
		{impl.Flux{Cell: 10, First: 10, Gaps: []int64{11}}, -100},    // the revolution ends at the change
		{evenly(10, 1), -100},
		{evenly(1, 1), -1},
	} {
		got, c := impl.AddDrift(r.f, r.drift)
		noFlux(t, "drift "+strconv.Itoa(i), got, c, impl.ErrRange)
	}
	got, c := impl.AddDrift(impl.Flux{Cell: 10, First: 9, Gaps: []int64{1, 1}}, -100)
	noFlux(t, "invalid flux", got, c, impl.ErrInvalid)
	got, c = impl.AddDrift(impl.Flux{Cell: 10, First: 8, Gaps: []int64{1, 1, 30}}, -100)
	changed(t, "three changes that do not meet", got, c, 28, 7, 8, 9)
}

func TestP5AddJitter(t *testing.T) {
	for _, r := range []struct {
		list    []int64
		changes []int64
	}{
		{[]int64{2, -1}, []int64{7, 14, 27}},
		{nil, []int64{5, 15, 25}},
		{[]int64{}, []int64{5, 15, 25}},
		{[]int64{3}, []int64{8, 18, 28}},
		{[]int64{-5}, []int64{0, 10, 20}},
		{[]int64{14}, []int64{19, 29, 39}},
		{[]int64{1, 2, 3, 50, -50}, []int64{6, 17, 28}}, // there are no changes for the last two
		{[]int64{9, 0, 0}, []int64{14, 15, 25}},
		{[]int64{0, -9, -18}, []int64{5, 6, 7}},
	} {
		got, c := impl.AddJitter(threeChanges(), r.list)
		changed(t, "jitter", got, c, 40, r.changes...)
	}
	long := impl.Flux{Cell: 10, First: 50, Gaps: []int64{101, 101, 200}}
	got, c := impl.AddJitter(long, []int64{50, -50})
	changed(t, "the greatest jitter", got, c, 402, 100, 101, 302)
	got, c = impl.AddJitter(long, make([]int64, impl.MaxGaps))
	changed(t, "the longest list", got, c, 402, 50, 151, 252)
}

func TestP5AddJitterErrors(t *testing.T) {
	for _, list := range invalidJitters() {
		got, c := impl.AddJitter(threeChanges(), list)
		noFlux(t, "no jitter", got, c, impl.ErrInvalid)
	}
	for _, f := range invalidFluxes() {
		got, c := impl.AddJitter(f, nil)
		noFlux(t, "invalid flux", got, c, impl.ErrInvalid)
		got, c = impl.AddJitter(f, []int64{50})
		noFlux(t, "invalid flux", got, c, impl.ErrInvalid)
	}
	for _, list := range [][]int64{{-6}, {15}, {10, 0, 0}, {11, 0, 0}, {0, 0, -10}, {0, 0, 15}, {-6, 0, 0}, {0, 10, 0}, {5, -5}, {0, 20, 20}, {50, -50}} {
		got, c := impl.AddJitter(threeChanges(), list)
		noFlux(t, "changes out of order", got, c, impl.ErrRange)
	}
}

func TestP5DropChanges(t *testing.T) {
	for _, r := range []struct {
		list    []int64
		changes []int64
	}{
		{nil, []int64{5, 15, 25}},
		{[]int64{}, []int64{5, 15, 25}},
		{[]int64{0}, []int64{15, 25}},
		{[]int64{1}, []int64{5, 25}},
		{[]int64{2}, []int64{5, 15}},
		{[]int64{0, 2}, []int64{15}},
		{[]int64{1, 2}, []int64{5}},
		{[]int64{0, 1}, []int64{25}},
	} {
		got, c := impl.DropChanges(threeChanges(), r.list)
		changed(t, "dropped", got, c, 40, r.changes...)
	}
	got, c := impl.DropChanges(evenly(impl.MaxGaps, 3), upTo(impl.MaxGaps)[:impl.MaxGaps-1])
	changed(t, "the last change", got, c, 3*impl.MaxGaps, 3*impl.MaxGaps-3)
}

func TestP5DropChangesErrors(t *testing.T) {
	for _, list := range invalidDrops() {
		got, c := impl.DropChanges(threeChanges(), list)
		noFlux(t, "no drops", got, c, impl.ErrInvalid)
	}
	for _, f := range invalidFluxes() {
		got, c := impl.DropChanges(f, []int64{3})
		noFlux(t, "invalid flux", got, c, impl.ErrInvalid)
	}
	for _, list := range [][]int64{{3}, {0, 3}, {0, 1, 2, 3}, {impl.MaxGaps - 1}} {
		got, c := impl.DropChanges(threeChanges(), list)
		noFlux(t, "not the number of a change", got, c, impl.ErrRange)
	}
	got, c := impl.DropChanges(threeChanges(), []int64{0, 1, 2})
	noFlux(t, "no change is left", got, c, impl.ErrState)
	got, c = impl.DropChanges(evenly(impl.MaxGaps, 3), upTo(impl.MaxGaps))
	noFlux(t, "no change of many is left", got, c, impl.ErrState)
}

func TestP5WeakenFlux(t *testing.T) {
	for _, r := range []struct {
		w       impl.Span
		changes []int64
	}{
		{impl.Span{}, []int64{5, 15, 25}},
		{impl.Span{From: 15, To: 15}, []int64{5, 15, 25}},
		{impl.Span{From: 40, To: 40}, []int64{5, 15, 25}},
		{impl.Span{From: 10, To: 30, Times: []int64{12, 20}}, []int64{5, 12, 20}},
		{impl.Span{From: 5, To: 15}, []int64{15, 25}},
		{impl.Span{From: 6, To: 16}, []int64{5, 25}},
		{impl.Span{From: 5, To: 16}, []int64{25}},
		{impl.Span{From: 16, To: 25, Times: []int64{16, 24}}, []int64{5, 15, 16, 24, 25}},
		{impl.Span{From: 0, To: 40, Times: []int64{0, 1, 39}}, []int64{0, 1, 39}},
		{impl.Span{From: 26, To: 40, Times: []int64{39}}, []int64{5, 15, 25, 39}},
		{impl.Span{From: 0, To: 5, Times: []int64{0, 1, 2, 3, 4}}, []int64{0, 1, 2, 3, 4, 5, 15, 25}},
		{impl.Span{From: 15, To: 16, Times: []int64{15}}, []int64{5, 15, 25}},
	} {
		got, c := impl.WeakenFlux(threeChanges(), r.w)
		changed(t, "weak area", got, c, 40, r.changes...)
	}
	full := evenly(impl.MaxGaps, 3)
	got, c := impl.WeakenFlux(full, impl.Span{From: 0, To: 3, Times: []int64{2}})
	code(t, "as many changes as there may be", c, impl.OK)
	is(t, "first change", got.First, int64(2))
}

func TestP5WeakenFluxErrors(t *testing.T) {
	for _, w := range invalidSpans() {
		got, c := impl.WeakenFlux(threeChanges(), w)
		noFlux(t, "no span", got, c, impl.ErrInvalid)
	}
	for _, f := range invalidFluxes() {
		got, c := impl.WeakenFlux(f, impl.Span{From: 0, To: 50})
		noFlux(t, "invalid flux", got, c, impl.ErrInvalid)
	}
	for _, w := range []impl.Span{{From: 0, To: 41}, {From: 41, To: 41}, {From: 0, To: 41, Times: []int64{40}}, {From: 0, To: impl.MaxTicks}, {From: impl.MaxTicks, To: impl.MaxTicks}} {
		got, c := impl.WeakenFlux(threeChanges(), w)
		noFlux(t, "behind the revolution", got, c, impl.ErrRange)
	}
	for _, w := range []impl.Span{{From: 0, To: 40}, {From: 5, To: 26}} {
		got, c := impl.WeakenFlux(threeChanges(), w)
		noFlux(t, "no change is left", got, c, impl.ErrState)
	}
	got, c := impl.WeakenFlux(evenly(impl.MaxGaps, 3), impl.Span{From: 1, To: 3, Times: []int64{1}})
	noFlux(t, "too many changes", got, c, impl.ErrRange)
}

func TestP5AddNoise(t *testing.T) {
	got, c := impl.AddNoise(threeChanges(), impl.Noise{Jitter: []int64{2, -1}, Drops: []int64{0}})
	changed(t, "jitter before drops", got, c, 40, 14, 27)
	got, c = impl.AddNoise(threeChanges(), impl.Noise{Drift: 100, Jitter: []int64{10}})
	changed(t, "drift before jitter", got, c, 44, 15, 26, 37)
	got, c = impl.AddNoise(threeChanges(), impl.Noise{Drops: []int64{2}, Weak: []impl.Span{{From: 10, To: 20, Times: []int64{11}}}})
	changed(t, "drops before weak areas", got, c, 40, 5, 11)
	got, c = impl.AddNoise(threeChanges(), impl.Noise{Drift: -100, Weak: []impl.Span{{From: 0, To: 10, Times: []int64{9}}, {From: 10, To: 20, Times: []int64{10, 11}}, {From: 36, To: 36}}})
	changed(t, "two weak areas", got, c, 36, 9, 10, 11, 22)
	got, c = impl.AddNoise(threeChanges(), impl.Noise{Drops: []int64{0, 1}, Weak: []impl.Span{{From: 0, To: 10, Times: []int64{3}}, {From: 20, To: 30}}})
	changed(t, "a weak area instead of a dropped change", got, c, 40, 3)
	got, c = impl.AddNoise(threeChanges(), impl.Noise{Drift: 100, Weak: []impl.Span{{From: 20, To: 44, Times: []int64{43}}}})
	changed(t, "a weak area up to the end of the longer revolution", got, c, 44, 5, 16, 43)
}

func TestP5NoNoiseChangesNothing(t *testing.T) {
	for i, f := range oddFluxes() {
		got, c := impl.AddNoise(f, impl.Noise{})
		if impl.ValidFlux(f) {
			sameFlux(t, "flux "+strconv.Itoa(i), got, c, f)
		} else {
			noFlux(t, "flux "+strconv.Itoa(i), got, c, impl.ErrInvalid)
		}
	}
}

func TestP5AddNoiseErrors(t *testing.T) {
	for i, n := range invalidNoises() {
		got, c := impl.AddNoise(threeChanges(), n)
		noFlux(t, "noise "+strconv.Itoa(i), got, c, impl.ErrInvalid)
	}
	for _, f := range invalidFluxes() {
		got, c := impl.AddNoise(f, impl.Noise{Drops: []int64{0, 1, 2}})
		noFlux(t, "invalid flux", got, c, impl.ErrInvalid)
	}
	all := []int64{0, 1, 2}
	far := []impl.Span{{From: 0, To: 41}}
	for i, r := range []struct {
		n    impl.Noise
		want int64
	}{
		{impl.Noise{Drops: all}, impl.ErrState},
		{impl.Noise{Drops: all, Weak: far}, impl.ErrState}, // the first error
		{impl.Noise{Drops: []int64{3}}, impl.ErrRange},
		{impl.Noise{Weak: far}, impl.ErrRange},
		{impl.Noise{Drift: -100, Weak: []impl.Span{{From: 0, To: 37}}}, impl.ErrRange},
		{impl.Noise{Jitter: []int64{-6}, Drops: []int64{0}}, impl.ErrRange}, // the first change is moved before it is dropped
		{impl.Noise{Jitter: []int64{-6}, Drops: all}, impl.ErrRange},
		{impl.Noise{Weak: []impl.Span{{From: 0, To: 40}}}, impl.ErrState},
		{impl.Noise{Weak: []impl.Span{{From: 0, To: 30}, {From: 30, To: 40, Times: []int64{35}}}}, impl.ErrState}, // before the second one
		{impl.Noise{Weak: []impl.Span{{From: 0, To: 30, Times: []int64{1}}, {From: 30, To: 41}}}, impl.ErrRange},
	} {
		got, c := impl.AddNoise(threeChanges(), r.n)
		noFlux(t, "noise "+strconv.Itoa(i), got, c, r.want)
	}
}

// track is the times of a reading, as the document describes noise.
type track struct {
	changes    []int64
	revolution int64
}

// fault returns the error of a track that noise has left.
func (r track) fault() int64 {
	if len(r.changes) == 0 {
		return impl.ErrState
	}
	before := int64(-1)
	for _, at := range r.changes {
		if at <= before || at >= r.revolution {
			return impl.ErrRange
		}
		before = at
	}
	if len(r.changes) > impl.MaxGaps || r.revolution > impl.MaxTicks {
		return impl.ErrRange
	}
	return impl.OK
}

func (r *track) drift(by int64) int64 {
	for i, at := range r.changes {
		r.changes[i] = down(at*(1000+by), 1000)
	}
	r.revolution = down(r.revolution*(1000+by), 1000)
	return r.fault()
}

func (r *track) jitter(list []int64) int64 {
	for i := range r.changes {
		if len(list) > 0 {
			r.changes[i] += list[i%len(list)]
		}
	}
	return r.fault()
}

func (r *track) drop(list []int64) int64 {
	for i := len(list) - 1; i >= 0; i-- {
		if list[i] >= int64(len(r.changes)) {
			return impl.ErrRange
		}
		r.changes = slices.Delete(r.changes, int(list[i]), int(list[i])+1)
	}
	return r.fault()
}

func (r *track) weaken(w impl.Span) int64 {
	if w.To > r.revolution {
		return impl.ErrRange
	}
	r.changes = slices.DeleteFunc(r.changes, func(at int64) bool { return at >= w.From && at < w.To })
	r.changes = append(r.changes, w.Times...)
	slices.Sort(r.changes)
	return r.fault()
}

func (r *track) noise(n impl.Noise) int64 {
	if code := r.drift(n.Drift); code != impl.OK {
		return code
	}
	if code := r.jitter(n.Jitter); code != impl.OK {
		return code
	}
	if code := r.drop(n.Drops); code != impl.OK {
		return code
	}
	for _, w := range n.Weak {
		if code := r.weaken(w); code != impl.OK {
			return code
		}
	}
	return impl.OK
}

// rising returns some strictly increasing numbers from low to before high.
func (s *source) rising(low, high, rare int64) []int64 {
	var list []int64
	for n := low; n < high; n++ {
		if s.below(rare) == 0 {
			list = append(list, n)
		}
	}
	return list
}

func (s *source) noise(changes, revolution int64) impl.Noise {
	n := impl.Noise{Drops: s.rising(0, changes+s.below(2), 6)}
	if s.below(2) == 0 {
		n.Drift = s.below(201) - 100
	}
	for range s.below(4) {
		n.Jitter = append(n.Jitter, s.below(5)-2)
	}
	from := int64(0)
	for range s.below(4) {
		from += s.below(revolution / 3)
		to := from + s.below(revolution/4)
		n.Weak = append(n.Weak, impl.Span{From: from, To: to, Times: s.rising(from, to, 5)})
		from = to
	}
	return n
}

func TestP5NoiseChangesExactlyWhatItSays(t *testing.T) {
	from := source(31)
	met := map[int64]int{}
	for range 5000 {
		f, _ := impl.FluxOf(from.cells(int(2+from.below(30)), 3)+"1", 4+from.below(9))
		n := from.noise(int64(len(f.Gaps)), impl.RevolutionOf(f))
		is(t, "noise", impl.ValidNoise(n), true)
		want := track{impl.ChangesOf(f), impl.RevolutionOf(f)}
		wantCode := want.noise(n)
		met[wantCode]++
		got, c := impl.AddNoise(f, n)
		if wantCode != impl.OK {
			noFlux(t, "noise", got, c, wantCode)
			continue
		}
		code(t, "noise", c, impl.OK)
		is(t, "changes", impl.ChangesOf(got), want.changes)
		is(t, "revolution and cell", []int64{impl.RevolutionOf(got), got.Cell}, []int64{want.revolution, f.Cell})
	}
	is(t, "noise with each code", met[impl.OK] > 500 && met[impl.ErrRange] > 500 && met[impl.ErrState] > 20, true)
}

func TestP5NoiseIsItsParts(t *testing.T) {
	from := source(32)
	for range 300 {
		f, _ := impl.FluxOf(from.cells(20, 3)+"1", 20)
		n := from.noise(int64(len(f.Gaps)), impl.RevolutionOf(f))
		want, wantCode := impl.AddDrift(f, n.Drift)
		if wantCode == impl.OK {
			want, wantCode = impl.AddJitter(want, n.Jitter)
		}
		if wantCode == impl.OK {
			want, wantCode = impl.DropChanges(want, n.Drops)
		}
		for _, w := range n.Weak {
			if wantCode == impl.OK {
				want, wantCode = impl.WeakenFlux(want, w)
			}
		}
		got, c := impl.AddNoise(f, n)
		is(t, "code and flux", []any{c, impl.SameFlux(got, want)}, []any{wantCode, true})
	}
}

func TestP5JitterBetween(t *testing.T) {
	f := threeChanges()
	moved, _ := impl.AddJitter(f, []int64{2, -1})
	back, _ := impl.AddJitter(f, []int64{1, -4, 3})
	for i, r := range []struct {
		a, b impl.Flux
		want int64
	}{
		{f, f, 0},
		{f, moved, 2},
		{f, back, 4},
		{f, impl.Flux{Cell: 200, First: 5, Gaps: []int64{10, 20, 10}}, 10}, // neither cells nor revolutions matter
		{f, impl.Flux{Cell: 4, First: 5, Gaps: []int64{10, 10, 900}}, 0},
		{impl.Flux{Cell: 10, First: 0, Gaps: []int64{impl.MaxTicks}}, impl.Flux{Cell: 10, First: impl.MaxTicks - 1, Gaps: []int64{impl.MaxTicks}}, impl.MaxTicks - 1},
	} {
		for _, pair := range [][2]impl.Flux{{r.a, r.b}, {r.b, r.a}} {
			most, ok := impl.JitterBetween(pair[0], pair[1])
			is(t, "jitter "+strconv.Itoa(i), []any{most, ok}, []any{r.want, true})
		}
	}
	others := append(invalidFluxes(), impl.Flux{Cell: 10, First: 5, Gaps: []int64{10, 30}}, impl.Flux{Cell: 10, First: 5, Gaps: []int64{10, 10, 10, 10}}, impl.Flux{Cell: 3, First: 5, Gaps: []int64{10, 10, 20}})
	for _, other := range others {
		for _, pair := range [][2]impl.Flux{{f, other}, {other, f}, {other, impl.Flux{}}} {
			most, ok := impl.JitterBetween(pair[0], pair[1])
			is(t, "no jitter", []any{most, ok}, []any{int64(0), false})
		}
	}
}

func TestP5CommonChanges(t *testing.T) {
	f := threeChanges()
	for i, r := range []struct {
		b    impl.Flux
		want int64
	}{
		{f, 3},
		{impl.Flux{Cell: 10, First: 5, Gaps: []int64{20, 20}}, 2},
		{impl.Flux{Cell: 99, First: 15, Gaps: []int64{900}}, 1},
		{impl.Flux{Cell: 10, First: 6, Gaps: []int64{8, 2, 8, 2, 20}}, 0},
		{impl.Flux{Cell: 10, First: 0, Gaps: []int64{5, 5, 5, 5, 5, 5, 5}}, 3},
		{impl.Flux{Cell: 10, First: 25, Gaps: []int64{5, 30}}, 1},
		{impl.Flux{Cell: 3, First: 5, Gaps: []int64{10, 10, 20}}, 0},
	} {
		is(t, "common "+strconv.Itoa(i), []int64{impl.CommonChanges(f, r.b), impl.CommonChanges(r.b, f)}, []int64{r.want, r.want})
	}
	for _, other := range invalidFluxes() {
		is(t, "nothing in common", []int64{impl.CommonChanges(f, other), impl.CommonChanges(other, f), impl.CommonChanges(other, other)}, []int64{0, 0, 0})
	}
}
