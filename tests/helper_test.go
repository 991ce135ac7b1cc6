package tests

import (
	"fmt"
	"math"
	"reflect"
	"strings"
	"testing"

	"loop.example/g00899/impl"
)

// brief returns the beginning of the Go text of a value.
func brief(v any) string {
	text := fmt.Sprintf("%#v", v)
	return text[:min(len(text), 300)]
}

// is compares two values, of which neither is a slice that could be nil or empty.
func is(t *testing.T, what string, got, want any) {
	t.Helper()
	if !reflect.DeepEqual(got, want) {
		t.Errorf("%q: got %s, want %s", what, brief(got), brief(want))
	}
}

// code compares an error code.
func code(t *testing.T, what string, got int64, want int64) {
	t.Helper()
	if got != want {
		t.Errorf("%q: got %q, want %q", what, impl.CodeName(got), impl.CodeName(want))
	}
}

// source yields the same numbers in each run of the tests.
type source uint64

func (s *source) below(limit int64) int64 {
	*s = *s*6364136223846793005 + 1442695040888963407
	return int64(uint64(*s)>>33) % limit
}

func (s *source) bytes(count int) string {
	out := make([]byte, count)
	for i := range out {
		out[i] = byte(s.below(256))
	}
	return string(out)
}

// cells have a change in one of so many cells.
func (s *source) cells(count int, rare int64) string {
	out := make([]byte, count)
	for i := range out {
		out[i] = '0'
		if s.below(rare) == 0 {
			out[i] = '1'
		}
	}
	return string(out)
}

// oddStrings are arguments that a function may not expect.
func oddStrings() []string {
	return []string{"", "0", "1", "A", "a", " ", "-", "0110100", "01101000", "a1ff", "A1FF", "FILE_1", "10 15 10 20 40", "\x00", "\xff\xfe", "\xc0\x80", "\u00e9", "\uff10\uff11", "\ufffd\ufffd", "0\u0661", "01\xff0000", strings.Repeat("a", 2*impl.MaxBytes+2), strings.Repeat("\xff", impl.MaxBytes+1), strings.Repeat("1", impl.MaxCells), strings.Repeat("1", impl.MaxCells+1), strings.Repeat("0", 8*impl.MaxBytes+8), strings.Repeat("1 ", 5000), strings.Repeat("9", 5000), "10 0 " + strings.Repeat("9", 30)}
}

func oddNumbers() []int64 {
	return []int64{math.MinInt64, math.MinInt64 + 1, math.MinInt32, -65536, -1, 0, 1, 2, 4, 7, 10, 12, 13, 199, 200, 201, 1000, 1001, 4096, 65535, 65536, 2000000, math.MaxInt32, math.MaxInt64 - 1, math.MaxInt64}
}

func oddFluxes() []impl.Flux {
	const most = math.MaxInt64
	list := []impl.Flux{
		{},
		{Cell: 10, First: 15, Gaps: []int64{10, 20, 40}},
		{Cell: 4, First: 0, Gaps: []int64{1}},
		{Cell: 200, First: impl.MaxTicks - 1, Gaps: []int64{impl.MaxTicks}},
		{Cell: 10, First: 5, Gaps: []int64{}},
		{Cell: 10, First: 0, Gaps: []int64{0}},
		{Cell: 10, First: -1, Gaps: []int64{10}},
		{Cell: 10, First: 0, Gaps: []int64{most, most, 3}},
		{Cell: 10, First: most, Gaps: []int64{most, most}},
		{Cell: most, First: math.MinInt64, Gaps: []int64{math.MinInt64, 1}},
		{Cell: math.MinInt64, First: 0, Gaps: []int64{20}},
		{Cell: 10, First: 3, Gaps: ones(impl.MaxGaps, 400)},
		{Cell: 10, First: 3, Gaps: ones(impl.MaxGaps+1, 400)},
	}
	return list
}

// ones returns gaps of one tick and a last one of some more.
func ones(count int, last int64) []int64 {
	gaps := make([]int64, count)
	for i := range gaps {
		gaps[i] = 1
	}
	gaps[count-1] = last
	return gaps
}
