package tests

import (
	"math"
	"slices"
	"strconv"
	"strings"
	"testing"

	"loop.example/g00899/impl"
)

// cellsBitByBit follows the words of the document bit by bit, for MFM or FM.
func cellsBitByBit(s string, last, mfm bool) string {
	var out strings.Builder
	for i := range len(s) {
		for weight := byte(128); weight > 0; weight /= 2 {
			data := s[i]&weight != 0
			if mfm && (last || data) {
				out.WriteByte('0')
			} else {
				out.WriteByte('1')
			}
			if data {
				out.WriteByte('1')
			} else {
				out.WriteByte('0')
			}
			last = data
		}
	}
	return out.String()
}

// allBytes are the 256 bytes in ascending order.
func allBytes() string {
	list := make([]byte, 256)
	for i := range list {
		list[i] = byte(i)
	}
	return string(list)
}

// otherCells returns the cells with another one at a place.
func otherCells(cells string, at int) string {
	other := []byte(cells)
	other[at] ^= 1
	return string(other)
}

// maxClocked is the number of bytes whose cells in FM or MFM are MaxCells, and maxGrouped that of bytes in the group code.
const (
	maxClocked = impl.MaxCells / 16
	maxGrouped = impl.MaxCells / 10
)

// noCells are texts of 20 bytes, without and with other characters than cells, of which some have several bytes.
func noCells() []string {
	const end = "0101010101010101"
	list := []string{}
	for _, s := range []string{"0102", "a101", "010 ", "0 01", "01.1", "+101", "-101", "010/", "\x000\x001", "010\xff", "\u00e901", "01\u0661", "\uff111", "\U0001d7d9", "01\n1"} {
		list = append(list, s+end, end+s, end[:7]+s+end[7:])
	}
	return list
}

func TestP6ExamplesOfTheDocument(t *testing.T) {
	is(t, "0x0E after a bit 0", impl.EncodeMfm("\x0e", false), "1010101001010100")
	is(t, "mark", impl.MfmMark(), "0100010010001001")
	is(t, "clock faults of the mark", impl.ClockFaults(impl.MfmMark(), false, true), []int64{10})
	is(t, "runs of the mark", impl.RunsOf(impl.MfmMark()), []int64{4, 3, 4, 3})
}

func TestP6CellsOfEachByte(t *testing.T) {
	for b := range 256 {
		s := string([]byte{byte(b)})
		is(t, "FM", impl.EncodeFm(s), cellsBitByBit(s, false, false))
		for _, last := range []bool{false, true} {
			is(t, "MFM", impl.EncodeMfm(s, last), cellsBitByBit(s, last, true))
		}
	}
	for s, want := range map[string]string{"\x00": "1010101010101010", "\xff": "0101010101010101", "\x80": "0100101010101010", "\x01": "1010101010101001"} {
		is(t, "MFM after a bit 0", impl.EncodeMfm(s, false), want)
	}
	for s, want := range map[string]string{"\x00": "0010101010101010", "\xff": "0101010101010101", "\x80": "0100101010101010", "\x01": "0010101010101001"} {
		is(t, "MFM after a bit 1", impl.EncodeMfm(s, true), want)
	}
}

// The cells of the first of equal bytes are computed, those of all others come from a table.
func TestP6CellsOfTheTableAndTheFunction(t *testing.T) {
	for b := range 256 {
		s := string([]byte{byte(b)})
		is(t, "FM of equal bytes", impl.EncodeFm(s+s+s), strings.Repeat(impl.EncodeFm(s), 3))
		behind := impl.EncodeMfm(s, b%2 == 1)
		is(t, "MFM of equal bytes", impl.EncodeMfm(s+s+s, b%2 == 0), impl.EncodeMfm(s, b%2 == 0)+behind+behind)
	}
	from := source(50)
	for range 20 {
		s := allBytes() + from.bytes(maxClocked-256)
		is(t, "FM of all bytes", impl.EncodeFm(s), cellsBitByBit(s, false, false))
		for _, last := range []bool{false, true} {
			is(t, "MFM of all bytes", impl.EncodeMfm(s, last), cellsBitByBit(s, last, true))
		}
	}
}

func TestP6BytesAreRecovered(t *testing.T) {
	from := source(51)
	list := []string{"", "\x00", "\xff", "a1", allBytes(), strings.Repeat("\x00", maxClocked), strings.Repeat("\xff", maxClocked)}
	for _, count := range []int{1, 2, 3, 17, 256, maxClocked - 1, maxClocked} {
		list = append(list, from.bytes(count))
	}
	for _, s := range list {
		cells := impl.EncodeFm(s)
		is(t, "number of FM cells", len(cells), 16*len(s))
		back, ok := impl.DecodeFm(cells)
		is(t, "bytes of FM cells", []any{back, ok}, []any{s, true})
		for _, last := range []bool{false, true} {
			cells = impl.EncodeMfm(s, last)
			is(t, "number of MFM cells", len(cells), 16*len(s))
			back, ok = impl.DecodeMfm(cells)
			is(t, "bytes of MFM cells", []any{back, ok}, []any{s, true})
		}
	}
}

func TestP6TheBitBeforeAString(t *testing.T) {
	from := source(52)
	for range 200 {
		a, b, last := from.bytes(int(from.below(9))), from.bytes(int(from.below(9))), from.below(2) == 1
		between := last
		if a != "" {
			between = impl.LastBit(a)
		}
		is(t, "MFM in two parts", impl.EncodeMfm(a+b, last), impl.EncodeMfm(a, last)+impl.EncodeMfm(b, between))
		is(t, "FM in two parts", impl.EncodeFm(a+b), impl.EncodeFm(a)+impl.EncodeFm(b))
	}
}

func TestP6ClockCellsTellNoData(t *testing.T) {
	from := source(53)
	for _, count := range []int{1, 2, 20, maxClocked} {
		s := from.bytes(count)
		cells := []byte(impl.EncodeFm(s))
		for i := 0; i < len(cells); i += 2 {
			cells[i] = byte('0' + from.below(2))
		}
		back, ok := impl.DecodeFm(string(cells))
		is(t, "bytes of FM cells with other clocks", []any{back, ok}, []any{s, true})
		back, ok = impl.DecodeMfm(string(cells))
		is(t, "bytes of MFM cells with other clocks", []any{back, ok}, []any{s, true})
	}
	for at := range 16 {
		back, ok := impl.DecodeMfm(otherCells(impl.EncodeMfm("\x5a", false), at))
		want := byte(0x5a)
		if at%2 == 1 {
			want ^= 128 >> (at / 2)
		}
		is(t, "byte with another cell", []any{back, ok}, []any{string([]byte{want}), true})
	}
}

func TestP6TooManyBytes(t *testing.T) {
	for _, count := range []int{maxClocked + 1, maxClocked + 2, 2 * maxClocked, impl.MaxBytes, impl.MaxCells, 1 << 17} {
		s := strings.Repeat("a", count)
		is(t, "cells of too many bytes", []string{impl.EncodeFm(s), impl.EncodeMfm(s, false), impl.EncodeMfm(s, true)}, []string{"", "", ""})
	}
}

func TestP6CellsOfNoBytes(t *testing.T) {
	list := append(noCells(), strings.Repeat("01", impl.MaxCells/2+8), strings.Repeat("1", 2*impl.MaxCells), strings.Repeat("0", impl.MaxCells+1))
	for _, length := range []int{1, 2, 4, 8, 15, 17, 24, 31, 33, 40, impl.MaxCells - 1, impl.MaxCells - 8} {
		list = append(list, strings.Repeat("1", length))
	}
	// The same with lengths that are multiples of 16.
	for _, s := range []string{"0101010101010102", "201010101010101\x00", "010101010101010\xff", "01010101010101\u00e9", "0101010 01010101", "010101010101\U0001d7d9"} {
		list = append(list, s, "0101010101010101"+s, s+"0101010101010101")
	}
	for _, cells := range list {
		back, ok := impl.DecodeFm(cells)
		is(t, "FM "+brief(cells), []any{back, ok}, []any{"", false})
		back, ok = impl.DecodeMfm(cells)
		is(t, "MFM "+brief(cells), []any{back, ok}, []any{"", false})
	}
}

func TestP6LastBit(t *testing.T) {
	for s, want := range map[string]bool{"": false, "\x00": false, "\x01": true, "\xff": true, "\xfe": false, "\x80": false, "\x01\x00": false, "\x00\x01": true, "\x00\xff\xfe": false, strings.Repeat("\x00", impl.MaxCells) + "\x03": true} {
		is(t, "last bit", impl.LastBit(s), want)
	}
}

func TestP6FmMarks(t *testing.T) {
	is(t, "mark", impl.FmMark(254), "1111010101111110")
	is(t, "mark", impl.FmMark(0), "1010000000101010")
	for b := range int64(256) {
		cells := impl.FmMark(b)
		for i, clock := range "11000111" {
			bit := byte('0' + b>>(7-i)&1)
			is(t, "clock and data", cells[2*i:2*i+2], string([]byte{byte(clock), bit}))
		}
		is(t, "length", len(cells), 16)
		back, ok := impl.FmMarkOf(cells)
		is(t, "byte of the mark", []any{back, ok}, []any{b, true})
		is(t, "missing clocks", impl.ClockFaults(cells, false, false), []int64{4, 6, 8})
	}
	for _, b := range []int64{-1, 256, 257, 510, 1 << 32, math.MinInt64, math.MaxInt64} {
		is(t, "mark of no byte", impl.FmMark(b), "")
	}
}

func TestP6CellsOfNoFmMark(t *testing.T) {
	mark := impl.FmMark(254)
	list := append(noCells(), "", "1", mark[:15], mark[1:], mark+"0", mark+mark, mark+impl.EncodeFm("a"), impl.EncodeFm("a")+mark, impl.MfmMark(), " "+mark[1:], mark[:15]+"2", mark[:14]+"\u00e9", strings.Repeat("0", 16), strings.Repeat("1", 16), strings.Repeat("1", impl.MaxCells), strings.Repeat(mark, impl.MaxCells/16+1))
	for b := range 256 {
		list = append(list, impl.EncodeFm(string([]byte{byte(b)})))
	}
	for _, cells := range list {
		b, ok := impl.FmMarkOf(cells)
		is(t, "no mark "+brief(cells), []any{b, ok}, []any{int64(0), false})
	}
	for at := range 16 {
		b, ok := impl.FmMarkOf(otherCells(mark, at))
		if at%2 == 0 {
			is(t, "another clock", []any{b, ok}, []any{int64(0), false})
		} else {
			is(t, "another bit", []any{b, ok}, []any{int64(254 ^ 128>>(at/2)), true})
		}
	}
}

func TestP6MfmMark(t *testing.T) {
	for _, last := range []bool{false, true} {
		cells := impl.EncodeMfm("\xa1", last)
		is(t, "clock of the sixth bit", cells[10], byte('1'))
		is(t, "mark", impl.MfmMark(), otherCells(cells, 10))
		is(t, "missing clock", impl.ClockFaults(impl.MfmMark(), last, true), []int64{10})
	}
	back, ok := impl.DecodeMfm(impl.MfmMark())
	is(t, "byte of the mark", []any{back, ok}, []any{"\xa1", true})
}

// None of the runs, and no place of a mark, meets more than two bytes.
func TestP6RunsOfMfmData(t *testing.T) {
	seen := map[int64]bool{}
	for pair := range int64(65536) {
		s := impl.PutWord(pair)
		for _, last := range []bool{false, true} {
			cells := impl.EncodeMfm(s, last)
			for _, run := range impl.RunsOf(cells) {
				if run < 2 || run > 4 {
					t.Fatalf("bytes %x after %v have a run of %d", s, last, run)
				}
				seen[run] = true
			}
			if strings.Contains(cells, impl.MfmMark()) {
				t.Fatalf("bytes %x after %v contain the mark", s, last)
			}
		}
	}
	is(t, "runs", seen, map[int64]bool{2: true, 3: true, 4: true})
}

func TestP6LongMfmData(t *testing.T) {
	from := source(54)
	for range 50 {
		s, last := from.bytes(maxClocked), from.below(2) == 1
		cells := impl.EncodeMfm(s, last)
		runs := impl.RunsOf(cells)
		is(t, "runs are 2 to 4", []bool{slices.Min(runs) >= 2, slices.Max(runs) <= 4}, []bool{true, true})
		is(t, "contains the mark", strings.Contains(cells, impl.MfmMark()), false)
		is(t, "clock faults", len(impl.ClockFaults(cells, last, true)), 0)
		is(t, "clock faults of FM", len(impl.ClockFaults(impl.EncodeFm(s), last, false)), 0)
	}
}

// plainFaults compares all clock cells with those of the same data.
func plainFaults(cells string, last, mfm bool) []int64 {
	list := []int64{}
	for i := 0; i < len(cells); i += 2 {
		clock := byte('1')
		if mfm && (cells[i+1] == '1' || i > 0 && cells[i-1] == '1' || i == 0 && last) {
			clock = '0'
		}
		if cells[i] != clock {
			list = append(list, int64(i))
		}
	}
	return list
}

func TestP6ClockFaults(t *testing.T) {
	for _, r := range []struct {
		cells     string
		last, mfm bool
		want      []int64
	}{
		{"", false, true, nil}, {"", true, true, nil}, {"", true, false, nil},
		{"00", false, true, []int64{0}}, {"00", true, true, nil}, {"10", false, true, nil}, {"10", true, true, []int64{0}},
		{"01", false, true, nil}, {"01", true, true, nil}, {"11", false, true, []int64{0}}, {"11", true, true, []int64{0}},
		{"00", false, false, []int64{0}}, {"00", true, false, []int64{0}}, {"10", true, false, nil}, {"11", true, false, nil}, {"01", false, false, []int64{0}},
		{"0100", false, true, nil}, {"0110", true, true, []int64{2}}, {"0000", true, true, []int64{2}}, {"0000", false, true, []int64{0, 2}},
		{"010000", false, true, []int64{4}}, {"110100", false, false, []int64{2, 4}},
		{impl.EncodeMfm("\x0e", false), true, true, []int64{0}},
		{impl.EncodeMfm("\x0e", true), false, true, []int64{0}},
		{impl.EncodeMfm("\x8e", true), false, true, nil}, // the first bit is 1 itself
		{impl.EncodeMfm("\xff", false), false, false, []int64{0, 2, 4, 6, 8, 10, 12, 14}},
		{impl.EncodeFm("\xff"), false, true, []int64{0, 2, 4, 6, 8, 10, 12, 14}},
	} {
		got := impl.ClockFaults(r.cells, r.last, r.mfm)
		if !slices.Equal(got, r.want) {
			t.Errorf("clock faults of %s, %v, %v: got %v, want %v", r.cells, r.last, r.mfm, got, r.want)
		}
	}
	from := source(55)
	for i := range 400 {
		count := 2 * int(from.below(40))
		if i < 4 {
			count = impl.MaxCells
		}
		cells, last, mfm := from.cells(count, 2), i%2 == 0, i%4 < 2
		got, want := impl.ClockFaults(cells, last, mfm), plainFaults(cells, last, mfm)
		if !slices.Equal(got, want) {
			t.Errorf("clock faults of %.100s, %v, %v: got %v, want %v", cells, last, mfm, got, want)
		}
	}
}

func TestP6EachChangedClockIsAFault(t *testing.T) {
	from := source(56)
	s := from.bytes(6)
	for _, last := range []bool{false, true} {
		for at := 0; at < 96; at += 2 {
			is(t, "MFM", impl.ClockFaults(otherCells(impl.EncodeMfm(s, last), at), last, true), []int64{int64(at)})
			is(t, "FM", impl.ClockFaults(otherCells(impl.EncodeFm(s), at), last, false), []int64{int64(at)})
		}
	}
}

func TestP6ClockFaultsOfNoCells(t *testing.T) {
	list := append(noCells(), "0", "1", "000", "0000000", "0102", "0 ", "\xff0", "\u00e9", strings.Repeat("0", impl.MaxCells-1), strings.Repeat("0", impl.MaxCells+1), strings.Repeat("0", impl.MaxCells+2))
	for i, cells := range list {
		for _, last := range []bool{false, true} {
			for _, mfm := range []bool{false, true} {
				is(t, "clock faults "+strconv.Itoa(i), impl.ClockFaults(cells, last, mfm) == nil, true)
			}
		}
	}
}

func TestP6RunsOf(t *testing.T) {
	for cells, want := range map[string][]int64{
		"": nil, "0": nil, "1": nil, "0000000": nil, "0010000": nil,
		"11": {1}, "101": {2}, "0101": {2}, "1010": {2}, "10001": {4}, "0110100": {1, 2}, "1110111": {1, 1, 2, 1, 1}, "0000010000001000": {7},
		"1" + strings.Repeat("0", impl.MaxCells-2) + "1": {impl.MaxCells - 1},
	} {
		got := impl.RunsOf(cells)
		if !slices.Equal(got, want) {
			t.Errorf("runs of %.60s: got %v, want %v", cells, got, want)
		}
	}
	is(t, "runs of changes only", impl.RunsOf(strings.Repeat("1", impl.MaxCells)), slices.Repeat([]int64{1}, impl.MaxCells-1))
	from := source(57)
	for range 200 {
		// Cells are written from runs that are known.
		lead, tail := from.below(5), from.below(5)
		cells, want := strings.Repeat("0", int(lead))+"1", []int64{}
		for range 1 + from.below(30) {
			run := 1 + from.below(9)
			cells += strings.Repeat("0", int(run-1)) + "1"
			want = append(want, run)
		}
		is(t, "runs", impl.RunsOf(cells+strings.Repeat("0", int(tail))), want)
	}
}

func TestP6RunsOfNoCells(t *testing.T) {
	for i, cells := range append(noCells(), "112", "1 1", "1\xff1", "1\u00e91", "1\x001", strings.Repeat("1", impl.MaxCells+1), strings.Repeat("10", impl.MaxCells)) {
		is(t, "runs "+strconv.Itoa(i), impl.RunsOf(cells) == nil, true)
	}
}
