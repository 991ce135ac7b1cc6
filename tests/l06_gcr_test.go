package tests

import (
	"math"
	"slices"
	"strconv"
	"strings"
	"testing"

	"loop.example/g00899/impl"
)

// groupTable is the table of the document, from 0 to 15.
func groupTable() []string {
	return strings.Fields("01010 01011 10010 10011 01110 01111 10110 10111 01001 11001 11010 11011 01101 11101 11110 10101")
}

// allGroups are all strings of five cells.
func allGroups() []string {
	list := []string{}
	for n := range 32 {
		list = append(list, strconv.FormatInt(int64(n+32), 2)[1:])
	}
	return list
}

// noGroups are no strings of five cells.
func noGroups() []string {
	return []string{"", "0", "0101", "010100", "0101001010", "01012", "0101 ", " 0101", "0101a", "+0101", "0b101", "0_101", "010\u00e9", "0\U0001d7d9", "\xff\xff\xff\xff\xff", "0101\x00", "0\u066100", "\u0660\u0661\u0660\u0661\u0660", strings.Repeat("0", impl.MaxCells), strings.Repeat("0", impl.MaxCells+5)}
}

// noGroupStrings are no group strings.
func noGroupStrings() []string {
	list := []string{"0", "0101", "010100", "01010010", "01012", "0101001012", "a101001010", "010100 1010", "01010 1010", "0101\xff01010", "010\u00e901010", strings.Repeat("1", impl.MaxCells-1), strings.Repeat("1", impl.MaxCells+1), strings.Repeat("01010", impl.MaxCells/5+1), strings.Repeat("01010", impl.MaxCells/5+2)}
	return append(list, noCells()...)
}

// plainDistance counts the places at which two groups differ.
func plainDistance(a, b string) int64 {
	count := int64(0)
	for i := range len(a) {
		if a[i] != b[i] {
			count++
		}
	}
	return count
}

// plainNearest are all numbers whose groups have the least distance.
func plainNearest(group string) []int64 {
	for distance := int64(0); ; distance++ {
		list := []int64{}
		for n, code := range groupTable() {
			if plainDistance(code, group) == distance {
				list = append(list, int64(n))
			}
		}
		if len(list) > 0 {
			return list
		}
	}
}

// groupsOf returns bytes in the group code.
func groupsOf(t *testing.T, s string) string {
	t.Helper()
	cells, ok := impl.EncodeGcr(s)
	is(t, "encoded", []any{len(cells), ok}, []any{10 * len(s), true})
	return cells
}

func TestP7ExamplesOfTheDocument(t *testing.T) {
	is(t, "constant", impl.GcrGroup, 5)
	is(t, "0x4E", groupsOf(t, "\x4e"), "0111011110")
	is(t, "nearest values", impl.NearestGcr("00010"), []int64{0, 2})
}

func TestP7Groups(t *testing.T) {
	for n, group := range groupTable() {
		is(t, "group", impl.GcrCode(int64(n)), group)
		is(t, "value", impl.GcrValue(group), int64(n))
	}
	for _, n := range []int64{-1, 16, 17, 255, 256, 1 << 32, math.MinInt64, math.MaxInt64} {
		is(t, "group of no value", impl.GcrCode(n), "")
	}
	for _, group := range allGroups() {
		is(t, "value of "+group, impl.GcrValue(group), int64(slices.Index(groupTable(), group)))
	}
	for _, group := range noGroups() {
		is(t, "value of no group", impl.GcrValue(group), int64(-1))
	}
}

func TestP7BytesAreRecovered(t *testing.T) {
	from := source(60)
	list := []string{"", allBytes(), strings.Repeat("\x00", maxGrouped), strings.Repeat("\xff", maxGrouped)}
	for _, count := range []int{1, 2, 3, 100, maxGrouped - 1, maxGrouped} {
		list = append(list, from.bytes(count))
	}
	for _, s := range list {
		cells := groupsOf(t, s)
		for i := range len(s) {
			is(t, "groups of a byte", cells[10*i:10*i+10], groupTable()[s[i]/16]+groupTable()[s[i]%16])
		}
		back, ok := impl.DecodeGcr(cells)
		is(t, "bytes", []any{back, ok}, []any{s, true})
		is(t, "faults", len(impl.GcrFaults(cells)), 0)
	}
}

func TestP7TooManyBytes(t *testing.T) {
	for _, count := range []int{maxGrouped + 1, maxGrouped + 2, impl.MaxBytes, impl.MaxCells, 1 << 17} {
		cells, ok := impl.EncodeGcr(strings.Repeat("a", count))
		is(t, "cells of too many bytes", []any{cells, ok}, []any{"", false})
	}
}

func TestP7CellsOfNoBytes(t *testing.T) {
	a := groupsOf(t, "a")
	list := append(noGroupStrings(), a[:5], a+a[:5], a+a+a[5:], strings.Repeat(a, maxGrouped+1), strings.Repeat(a, maxGrouped)+a[:5], strings.Repeat("0", 10), strings.Repeat("1", 10))
	for _, group := range allGroups() {
		if slices.Contains(groupTable(), group) {
			continue
		}
		list = append(list, group, group+a[:5], a[:5]+group, a+a+group+a[5:], a[:5]+group+a, strings.Repeat(a, maxGrouped-1)+a[:5]+group)
	}
	for _, cells := range list {
		back, ok := impl.DecodeGcr(cells)
		is(t, "no bytes "+brief(cells), []any{back, ok}, []any{"", false})
	}
}

// No run of equal cells meets more than two groups, and the groups of two bytes meet in all ways.
func TestP7RunsAreBounded(t *testing.T) {
	ones, zeros := int64(0), 0
	for pair := range int64(65536) {
		cells, _ := impl.EncodeGcr(impl.PutWord(pair))
		if strings.Contains(cells, "000") || strings.Contains(cells, "111111111") {
			t.Fatalf("bytes %x have the cells %s", impl.PutWord(pair), cells)
		}
		if strings.Contains(cells, "00") {
			zeros = 2
		}
		ones = max(ones, impl.LongestOnes(cells))
	}
	is(t, "longest runs", []any{zeros, ones}, []any{2, int64(8)})
	from := source(61)
	for range 50 {
		cells := groupsOf(t, from.bytes(maxGrouped))
		is(t, "three zeros", strings.Contains(cells, "000"), false)
		is(t, "at most eight ones", impl.LongestOnes(cells) <= 8, true)
	}
}

func TestP7Faults(t *testing.T) {
	is(t, "no faults", len(impl.GcrFaults("")), 0)
	for _, group := range allGroups() {
		want := []int64{0}
		if slices.Contains(groupTable(), group) {
			want = nil
		}
		if got := impl.GcrFaults(group); !slices.Equal(got, want) {
			t.Errorf("faults of %s: got %v, want %v", group, got, want)
		}
	}
	from := source(62)
	for range 100 {
		cells, want := "", []int64{}
		for i := range 1 + from.below(40) {
			group := allGroups()[from.below(32)]
			if !slices.Contains(groupTable(), group) {
				want = append(want, i)
			}
			cells += group
		}
		if got := impl.GcrFaults(cells); !slices.Equal(got, want) {
			t.Errorf("faults of %s: got %v, want %v", cells, got, want)
		}
	}
	is(t, "faults of MaxCells cells", impl.GcrFaults(strings.Repeat("0", impl.MaxCells)), upTo(impl.MaxCells/5))
	for i, cells := range noGroupStrings() {
		is(t, "faults of no group string "+strconv.Itoa(i), impl.GcrFaults(cells) == nil, true)
	}
}

func TestP7Distances(t *testing.T) {
	for _, a := range allGroups() {
		for _, b := range allGroups() {
			is(t, "distance of "+a+" and "+b, impl.GcrDistance(a, b), plainDistance(a, b))
		}
		for _, no := range noGroups() {
			is(t, "no distance", []int64{impl.GcrDistance(a, no), impl.GcrDistance(no, a), impl.GcrDistance(no, no)}, []int64{-1, -1, -1})
		}
	}
}

func TestP7Nearest(t *testing.T) {
	ties := 0
	for _, group := range allGroups() {
		want := plainNearest(group)
		is(t, "nearest to "+group, impl.NearestGcr(group), want)
		if len(want) > 1 {
			ties++
		}
	}
	is(t, "there are ties", ties > 5, true)
	for n, group := range groupTable() {
		is(t, "nearest to a group of the table", impl.NearestGcr(group), []int64{int64(n)})
	}
	for _, group := range noGroups() {
		is(t, "nearest to no group", impl.NearestGcr(group) == nil, true)
	}
}

// repaired returns what RepairGcr makes of a group string.
func repaired(t *testing.T, cells string) (string, []int64) {
	t.Helper()
	got, doubtful, ok := impl.RepairGcr(cells)
	is(t, "repaired", []any{len(got), ok}, []any{len(cells), true})
	return got, doubtful
}

func TestP7RepairOfEachGroup(t *testing.T) {
	got, doubtful := repaired(t, "")
	is(t, "nothing is repaired", []any{got, len(doubtful)}, []any{"", 0})
	got, doubtful = repaired(t, "0001011110")
	is(t, "a wrong group", []any{got, doubtful}, []any{"0101011110", []int64{0}})
	for _, group := range allGroups() {
		near := plainNearest(group)
		want := []int64{}
		if len(near) > 1 {
			want = []int64{1}
		}
		got, doubtful := repaired(t, "01010"+group+"10101")
		is(t, "group "+group, got, "01010"+groupTable()[near[0]]+"10101")
		if !slices.Equal(doubtful, want) {
			t.Errorf("group %s: got doubts %v, want %v", group, doubtful, want)
		}
	}
}

func TestP7RepairChangesNoOtherGroup(t *testing.T) {
	from := source(63)
	s := from.bytes(20)
	right := groupsOf(t, s)
	for at := range right {
		wrong, start := otherCells(right, at), at/5*5
		got, doubtful := repaired(t, wrong)
		is(t, "other groups", got[:start]+got[start+5:], right[:start]+right[start+5:])
		near := plainNearest(wrong[start : start+5])
		is(t, "the wrong group", got[start:start+5], groupTable()[near[0]])
		is(t, "it is doubtful", len(doubtful) == 1 && doubtful[0] == int64(start/5), len(near) > 1)
		is(t, "the right value is one of the nearest", len(near) == 1 && near[0] == impl.GcrValue(wrong[start:start+5]) || slices.Contains(near, impl.GcrValue(right[start:start+5])), true)
	}
}

func TestP7RepairLeavesNoFaults(t *testing.T) {
	from := source(64)
	for i := range 60 {
		cells := from.cells(5*int(from.below(60)), 2)
		if i == 0 {
			cells = from.cells(impl.MaxCells, 2)
		}
		got, doubtful := repaired(t, cells)
		is(t, "faults", len(impl.GcrFaults(got)), 0)
		want := []int64{}
		for _, at := range impl.GcrFaults(cells) {
			if len(impl.NearestGcr(cells[5*at:5*at+5])) > 1 {
				want = append(want, at)
			}
		}
		if !slices.Equal(doubtful, want) {
			t.Errorf("doubtful groups of %.100s: got %v, want %v", cells, doubtful, want)
		}
		again, none := repaired(t, got)
		is(t, "repaired again", []any{again, len(none)}, []any{got, 0})
	}
	for _, s := range []string{"a", allBytes(), from.bytes(maxGrouped)} {
		got, doubtful := repaired(t, groupsOf(t, s))
		is(t, "right cells", []any{got, len(doubtful)}, []any{groupsOf(t, s), 0})
	}
}

func TestP7RepairOfNoGroupString(t *testing.T) {
	for i, cells := range noGroupStrings() {
		got, doubtful, ok := impl.RepairGcr(cells)
		is(t, "no group string "+strconv.Itoa(i), []any{got, doubtful == nil, ok}, []any{"", true, false})
	}
}

func TestP7LongestOnes(t *testing.T) {
	for cells, want := range map[string]int64{
		"": 0, "0": 0, "1": 1, "000000": 0, "11": 2, "0110100": 2, "1101": 2, "1011": 2, "0111011110": 4, "1110111": 3, "10101": 1,
		strings.Repeat("1", impl.MaxCells):           impl.MaxCells,
		strings.Repeat("1", impl.MaxCells-1) + "0":   impl.MaxCells - 1,
		"1" + strings.Repeat("0", impl.MaxCells-1):   1,
		"111" + strings.Repeat("0", 100) + "11":      3, // the ends are no neighbours
		"11" + strings.Repeat("01", 100) + "011110":  4,
		strings.Repeat("1", impl.MaxCells+1):         0,
		strings.Repeat("1", impl.MaxCells) + "00000": 0,
	} {
		is(t, "longest ones", impl.LongestOnes(cells), want)
	}
	for _, cells := range append(noCells(), "112", "1 1", "11\xff", "\u00e911", "1\x001") {
		is(t, "longest ones of no cells", impl.LongestOnes(cells), int64(0))
	}
}
