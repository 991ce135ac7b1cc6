package tests

import (
	"math"
	"slices"
	"strconv"
	"strings"
	"testing"

	"loop.example/g00899/impl"
)

// plainVote counts the votes for each byte in ascending order.
func plainVote(list []string) (string, []int64) {
	out, weak := []byte{}, []int64{}
	for at := range len(list[0]) {
		best, most, kinds := 0, 0, 0
		for b := range 256 {
			votes := 0
			for _, s := range list {
				if int(s[at]) == b {
					votes++
				}
			}
			if votes > most {
				best, most = b, votes
			}
			kinds += min(votes, 1)
		}
		out = append(out, byte(best))
		if kinds > 1 {
			weak = append(weak, int64(at))
		}
	}
	return string(out), weak
}

// plainShift tries all shifts in the order of the document.
func plainShift(base, cells string, within int64) (int64, int64) {
	best, least, total := int64(0), int64(math.MaxInt64), int64(len(base))
	for i := range 2*within + 1 {
		shift := (i + 1) / 2
		if i%2 == 0 {
			shift = -shift
		}
		count := int64(0)
		for at := range total {
			if base[at] != cells[((at+shift)%total+total)%total] {
				count++
			}
		}
		if count < least {
			best, least = shift, count
		}
	}
	return best, least
}

// noRevolutions are no revolutions of a track.
func noRevolutions() [][]string {
	long := strings.Repeat("1", impl.MaxCells+1)
	list := [][]string{nil, {}, {""}, {"", ""}, {"1", ""}, {"", "1"}, {"1", "10"}, {"10", "1"}, {"10", "01", "101"}, {"10", "01", "1"}, {"10", "0a"}, {"10", "0\xff"}, {"2"}, {"10", "\u00e9"}, {long}, {long, long}, {long[1:], long}, slices.Repeat([]string{"10"}, impl.MaxRevolutions+1)}
	for _, s := range noCells() {
		list = append(list, []string{s}, []string{s, s}, []string{strings.Repeat("1", len(s)), s})
	}
	return list
}

// revolutions returns some strings of cells of one length.
func (s *source) revolutions(count, cells int) []string {
	list := []string{}
	for range count {
		list = append(list, s.cells(cells, 2))
	}
	return list
}

// cellsAre requires the majority of revolutions and their weak cells.
func cellsAre(t *testing.T, what string, list []string, want string, weak []int64) {
	t.Helper()
	is(t, what, impl.ValidRevolutions(list), true)
	got, c := impl.MajorityCells(list)
	code(t, what, c, impl.OK)
	places, c := impl.WeakCells(list)
	code(t, what, c, impl.OK)
	is(t, what, []bool{got == want, slices.Equal(places, weak)}, []bool{true, true})
}

func TestP11ExamplesOfTheDocument(t *testing.T) {
	cellsAre(t, "cells", []string{"0110", "0011", "0010"}, "0010", []int64{1, 3})
	is(t, "text", impl.VotedText(impl.Voted{Number: 1, Data: "abcdefgh", State: impl.StWeak, Weak: []int64{2, 5}, Votes: 3}), "0/0/1 0 weak votes 3 weak 2 5")
	is(t, "constants", []int64{impl.MaxRevolutions, impl.MaxWithin, impl.StWeak}, []int64{5, 40, 5})
}

func TestP11Revolutions(t *testing.T) {
	from := source(140)
	for count := 1; count <= impl.MaxRevolutions; count++ {
		for _, cells := range []int{1, 2, 3, 50, impl.MaxCells} {
			list := from.revolutions(count, cells)
			want, weak := plainVote(list)
			cellsAre(t, "revolutions", list, want, weak)
			cellsAre(t, "the same ones", slices.Repeat(list[:1], count), list[0], nil)
		}
	}
	for _, list := range noRevolutions() {
		is(t, "no revolutions", impl.ValidRevolutions(list), false)
		cells, c := impl.MajorityCells(list)
		is(t, "majority of no revolutions", []any{cells, c}, []any{"", int64(impl.ErrInvalid)})
		weak, c := impl.WeakCells(list)
		is(t, "weak cells of no revolutions", []any{len(weak), c}, []any{0, int64(impl.ErrInvalid)})
	}
}

// A cell is 1 only if more than half of the revolutions say so.
func TestP11Majorities(t *testing.T) {
	for count := 1; count <= impl.MaxRevolutions; count++ {
		for votes := range 1 << count {
			list, number := []string{}, 0
			for i := range count {
				list = append(list, "0"+strconv.Itoa(votes>>i&1)+"1")
				number += votes >> i & 1
			}
			want, weak := "001", []int64{1}
			if 2*number > count {
				want = "011"
			}
			if number == 0 || number == count {
				weak = nil
			}
			cellsAre(t, "votes "+strconv.Itoa(number)+" of "+strconv.Itoa(count), list, want, weak)
		}
	}
}

// A majority of revolutions that are right at each cell restores all of them.
func TestP11MinoritiesAreOutvoted(t *testing.T) {
	from := source(141)
	for count := 1; count <= impl.MaxRevolutions; count++ {
		for range 30 {
			right := from.cells(200, 2)
			list := [][]byte{}
			for range count {
				list = append(list, []byte(right))
			}
			weak := []int64{}
			for at := range right {
				first, number := from.below(int64(count)), from.below(int64(count+1)/2)
				for i := range number {
					list[(first+i)%int64(count)][at] ^= 1
				}
				if number > 0 {
					weak = append(weak, int64(at))
				}
			}
			texts := []string{}
			for _, cells := range list {
				texts = append(texts, string(cells))
			}
			cellsAre(t, "a minority is wrong", texts, right, weak)
		}
	}
}

// shiftIs requires a shift, the number of differences, and OK.
func shiftIs(t *testing.T, what, base, cells string, within, shift, count int64) {
	t.Helper()
	gotShift, gotCount, c := impl.BestShift(base, cells, within)
	code(t, what, c, impl.OK)
	is(t, what, []int64{gotShift, gotCount}, []int64{shift, count})
}

func TestP11BestShift(t *testing.T) {
	from := source(142)
	for range 400 {
		total := 1 + int(from.below(90))
		base, cells, within := from.cells(total, 2), from.cells(total, 2), from.below(41)
		shift, count := plainShift(base, cells, within)
		shiftIs(t, "any cells", base, cells, within, shift, count)
	}
	base := from.cells(impl.MaxCells, 3)
	for _, by := range []int{0, 1, 2, 39, 40, 41, impl.MaxCells - 1, impl.MaxCells - 40, impl.MaxCells - 41} {
		for _, within := range []int64{0, 1, 2, 39, 40} {
			shift, count := plainShift(base, turned(base, by), within)
			shiftIs(t, "turned by "+strconv.Itoa(by), base, turned(base, by), within, shift, count)
			if int64(by) <= within {
				is(t, "and back", []int64{shift, count}, []int64{-int64(by), 0})
			}
		}
	}
}

// The first of the best shifts counts: the least one, and of both signs the positive one.
func TestP11ShiftsThatAreEquallyGood(t *testing.T) {
	shiftIs(t, "no shift is best", "1010", "1010", 40, 0, 0)
	shiftIs(t, "both signs", "1010", "0101", 40, 1, 0)
	shiftIs(t, "both signs and within 1", "1010", "0101", 1, 1, 0)
	shiftIs(t, "both signs within 0", "1010", "0101", 0, 0, 4)
	shiftIs(t, "only a negative one", "0100000", "1000000", 40, -1, 0)
	shiftIs(t, "only a positive one", "1000000", "0100000", 40, 1, 0)
	shiftIs(t, "a negative one is nearer", "1100000", "1000001", 40, -1, 0)
	shiftIs(t, "a positive one is nearer", "1000000", "0001000", 40, 3, 0)
	shiftIs(t, "a nearer one of the other sign", "1000000", "0000100", 40, -3, 0)
	shiftIs(t, "within 2 of 3", "1000000", "0000100", 2, 0, 2)
	shiftIs(t, "both are equally bad", "11000000", "00001000", 1, 0, 3)
	shiftIs(t, "both are equally good and not right", "11100", "01010", 4, 1, 1)
	shiftIs(t, "all cells are alike", "1111", "1111", 40, 0, 0)
	shiftIs(t, "all cells differ", "1111", "0000", 40, 0, 4)
	shiftIs(t, "a single cell", "1", "1", 40, 0, 0)
	shiftIs(t, "another single cell", "1", "0", 40, 0, 1)
	shiftIs(t, "around", "100", "010", 40, 1, 0)
	far := strings.Repeat("0", 100)
	shiftIs(t, "MaxWithin", "1"+far, far[:40]+"1"+far[40:], 40, 40, 0)
	shiftIs(t, "one less", "1"+far, far[:40]+"1"+far[40:], 39, 0, 2)
	shiftIs(t, "one more", "1"+far, far[:41]+"1"+far[41:], 40, 0, 2)
	shiftIs(t, "MaxWithin backwards", "1"+far, far[:61]+"1"+far[61:], 40, -40, 0)
	shiftIs(t, "one less backwards", "1"+far, far[:61]+"1"+far[61:], 39, 0, 2)
	shiftIs(t, "one more backwards", "1"+far, far[:60]+"1"+far[60:], 40, 0, 2)
}

func TestP11AlignRevolutions(t *testing.T) {
	from := source(143)
	for count := 1; count <= impl.MaxRevolutions; count++ {
		for _, within := range []int64{0, 1, 7, 40} {
			base := from.cells(300, 3)
			list, want := []string{base}, slices.Repeat([]string{base}, count)
			for len(list) < count {
				list = append(list, turned(base, int(300+within-from.below(2*within+1))%300))
			}
			got, c := impl.AlignRevolutions(list, within)
			code(t, "aligned", c, impl.OK)
			is(t, "aligned", got, want)
			for i := range list {
				list[i] = from.cells(300, 2)
				shift, _ := plainShift(list[0], list[i], within)
				want[i] = turned(list[i], int(shift+300)%300)
			}
			got, c = impl.AlignRevolutions(list, within)
			code(t, "nearly aligned", c, impl.OK)
			is(t, "nearly aligned", got, want)
		}
	}
	short, c := impl.AlignRevolutions([]string{"100", "001", "010"}, 40)
	is(t, "short ones", []any{short, c}, []any{slices.Repeat([]string{"100"}, 3), int64(impl.OK)})
	even, c := impl.AlignRevolutions([]string{"0110", "1001", "0011"}, 0)
	is(t, "within 0", []any{even, c}, []any{[]string{"0110", "1001", "0011"}, int64(impl.OK)})
}

// Revolutions that begin at other cells are turned back, and their majority is what was written.
func TestP11AlignedRevolutionsAreOutvoted(t *testing.T) {
	from := source(144)
	spec := from.sized(impl.TfMfm, 2, 0, 1)
	right := built(t, spec)
	list := []string{otherCells(right, 77), turned(otherCells(right, 300), 9), turned(otherCells(right, 500), len(right)-40)}
	aligned, c := impl.AlignRevolutions(list, 40)
	code(t, "aligned", c, impl.OK)
	cellsAre(t, "aligned revolutions", aligned, right, []int64{77, 300, 500})
}

func TestP11NoShifts(t *testing.T) {
	none := func(what string, list []string, within, want int64) {
		t.Helper()
		aligned, c := impl.AlignRevolutions(list, within)
		is(t, what, []any{len(aligned), c}, []any{0, want})
		if len(list) == 2 {
			shift, count, c := impl.BestShift(list[0], list[1], within)
			is(t, what, []int64{shift, count, c}, []int64{0, 0, want})
		}
	}
	for _, n := range []int64{-1, 41, 42, -40, 1 << 32, math.MinInt64, math.MaxInt64} {
		none("no number of cells", []string{"10"}, n, impl.ErrRange)
		none("no number of cells for two", []string{"10", "01"}, n, impl.ErrRange)
		for _, list := range noRevolutions() {
			none("neither", list, n, impl.ErrInvalid)
		}
	}
	for _, list := range noRevolutions() {
		for _, n := range []int64{0, 1, 40} {
			none("no revolutions", list, n, impl.ErrInvalid)
		}
	}
}

// votesAre requires bytes, the offsets of the weak ones, and true.
func votesAre(t *testing.T, what string, list []string, want string, weak ...int64) {
	t.Helper()
	got, places, ok := impl.VoteBytes(list)
	is(t, what, []any{got, slices.Equal(places, weak), ok}, []any{want, true, true})
}

func TestP11VoteBytes(t *testing.T) {
	votesAre(t, "one string", []string{"abc"}, "abc")
	votesAre(t, "two of three", []string{"abc", "abd", "xbd"}, "abd", 0, 2)
	votesAre(t, "even votes", []string{"b", "a"}, "a", 0)
	votesAre(t, "even votes in another order", []string{"a", "b"}, "a", 0)
	votesAre(t, "the least of three", []string{"c", "a", "b"}, "a", 0)
	votesAre(t, "most of them are not more than half", []string{"z", "a", "b", "z"}, "z", 0)
	votesAre(t, "the least of those that most have", []string{"z", "y", "a", "z", "y"}, "y", 0)
	votesAre(t, "a large byte", []string{"\xff", "\x00", "\xff"}, "\xff", 0)
	votesAre(t, "bytes are not signed", []string{"\xff", "\x7f"}, "\x7f", 0)
	votesAre(t, "bytes and not runes", []string{"\xc3\xa9", "\xc3\xa8", "\xc3\xa8"}, "\xc3\xa8", 1)
	votesAre(t, "empty strings", []string{"", "", ""}, "")
	votesAre(t, "one empty string", []string{""}, "")
	from := source(145)
	for range 300 {
		length, list := int(from.below(9)), []string{}
		for range 1 + from.below(9) {
			text := []byte(from.bytes(length))
			for i := range text {
				text[i] = 'a' + text[i]%3
			}
			list = append(list, string(text))
		}
		want, weak := plainVote(list)
		votesAre(t, "some strings", list, want, weak...)
	}
	most := []string{}
	for range impl.MaxMarks {
		most = append(most, from.bytes(impl.MaxFile))
	}
	want, weak := plainVote(most)
	votesAre(t, "MaxMarks strings of MaxFile bytes", most, want, weak...)
}

func TestP11NoVotes(t *testing.T) {
	long := strings.Repeat("a", impl.MaxFile+1)
	for _, list := range [][]string{nil, {}, {"a", ""}, {"", "a"}, {"b", "ab"}, {"ab", "cd", "e"}, {long}, {long, long}, {long, long[1:]}, {long[1:], long}, {strings.Repeat("a", 1<<20)}, slices.Repeat([]string{"a"}, impl.MaxMarks+1), make([]string, impl.MaxMarks+1)} {
		got, weak, ok := impl.VoteBytes(list)
		is(t, "no votes", []any{got, len(weak), ok}, []any{"", 0, false})
	}
}

func weakSector() impl.Voted {
	return impl.Voted{Cylinder: 3, Head: 1, Number: 2, Data: "ABCDEFGH", State: impl.StWeak, Weak: []int64{2, 5}, Votes: 3}
}

// elected are sectors of all states with an address and a size.
func elected(size int64) []impl.Voted {
	list := slices.Repeat([]impl.Voted{weakSector()}, 7)
	for i, state := range []int64{impl.StGood, impl.StGood, impl.StWeak, impl.StWeak, impl.StBadData, impl.StBadData, impl.StNoData} {
		list[i].State, list[i].Size, list[i].Data, list[i].Weak, list[i].Deleted = state, size, strings.Repeat("x", 8<<size), nil, i%2 == 1
		if state == impl.StWeak || i == 5 {
			list[i].Weak = []int64{0, 3, 8<<size - 1}
		}
	}
	list[6].Data = ""
	return list
}

// invalidVoted are sectors of which one field is wrong.
func invalidVoted() []impl.Voted {
	list := []impl.Voted{{}, {Votes: 1}, {Data: "ABCDEFGH", Votes: 1}, {Votes: 1, State: impl.StBadId}, {Votes: 1, State: impl.StBadId, Data: "ABCDEFGH"}}
	with := func(base impl.Voted, change func(v *impl.Voted)) {
		base.Weak = slices.Clone(base.Weak)
		change(&base)
		list = append(list, base)
	}
	for _, base := range elected(1) {
		for _, n := range []int64{-1, 256, 257, 1 << 32, math.MinInt64, math.MaxInt64} {
			with(base, func(v *impl.Voted) { v.Cylinder = n })
			with(base, func(v *impl.Voted) { v.Head = n })
			with(base, func(v *impl.Voted) { v.Number = n })
			with(base, func(v *impl.Voted) { v.Size = n })
			with(base, func(v *impl.Voted) { v.Votes = n })
		}
		for _, n := range []int64{3, 4, 60, 63, 64, 255} {
			with(base, func(v *impl.Voted) { v.Size = n })
		}
		for _, n := range []int64{0, 6} {
			with(base, func(v *impl.Voted) { v.Votes = n })
		}
		for _, n := range []int64{0, 2, 6, -1, 1<<32 + 1, math.MinInt64, math.MaxInt64} {
			with(base, func(v *impl.Voted) { v.State = n })
		}
		for _, n := range []int{1, 7, 8, 15, 17, 32} {
			with(base, func(v *impl.Voted) { v.Data = strings.Repeat("x", n) })
		}
		for _, weak := range [][]int64{{-1}, {16}, {3, 3}, {3, 2}, {0, 16}, {0, 1, 1}, {math.MinInt64}, {math.MaxInt64}, {0, math.MaxInt64, 1}} {
			with(base, func(v *impl.Voted) { v.Weak = weak })
		}
		switch base.State {
		case impl.StGood:
			with(base, func(v *impl.Voted) { v.Weak = []int64{0} })
		case impl.StWeak:
			with(base, func(v *impl.Voted) { v.Weak = nil })
			with(base, func(v *impl.Voted) { v.State = impl.StGood })
		case impl.StNoData:
			with(base, func(v *impl.Voted) { v.Deleted = true })
			with(base, func(v *impl.Voted) { v.Data = strings.Repeat("x", 16) })
			with(base, func(v *impl.Voted) { v.Weak = []int64{0} })
		}
		if base.Data != "" {
			with(base, func(v *impl.Voted) { v.Data = "" })
			with(base, func(v *impl.Voted) { v.Size = 0 })
			with(base, func(v *impl.Voted) { v.Size = 2 })
		}
	}
	return list
}

func TestP11ValidVoted(t *testing.T) {
	for size := range int64(3) {
		for _, v := range elected(size) {
			is(t, "valid "+brief(v), impl.ValidVoted(v), true)
			for votes := int64(1); votes <= 5; votes++ {
				v.Votes, v.Cylinder, v.Head, v.Number = votes, 255, 0, 255
				is(t, "at the ends "+brief(v), impl.ValidVoted(v), true)
				v.Cylinder, v.Head, v.Number = 0, 255, 0
				is(t, "at the other ends "+brief(v), impl.ValidVoted(v), true)
			}
			if v.State == impl.StWeak || v.State == impl.StBadData {
				v.Weak = upTo(8 << size)
				is(t, "all bytes are weak "+brief(v), impl.ValidVoted(v), true)
			}
		}
	}
	for _, v := range invalidVoted() {
		is(t, "invalid "+brief(v), impl.ValidVoted(v), false)
	}
}

func TestP11SameVoted(t *testing.T) {
	sameOnly(t, impl.SameVoted, append(elected(1), elected(0)...), func(v impl.Voted) []impl.Voted {
		list := slices.Repeat([]impl.Voted{v}, 11)
		list[0].Votes++
		list[1].Weak = append(slices.Clone(v.Weak), 9)
		list[2].Weak = append([]int64{9}, v.Weak...)
		list[3].Weak = []int64{0, 4, 9}
		list[4].Cylinder++
		list[5].Head++
		list[6].Number++
		list[7].Size++
		list[8].Data += "x"
		list[9].State++
		list[10].Deleted = !v.Deleted
		return list
	})
	is(t, "invalid sectors", impl.SameVoted(invalidVoted(), invalidVoted()), true)
	is(t, "no weak bytes", impl.SameVoted([]impl.Voted{{Weak: nil}}, []impl.Voted{{Weak: []int64{}}}), true)
}

// plainMerged follows the words of the document for each address in ascending order.
func plainMerged(lists [][]impl.Found) []impl.Voted {
	type key [4]int64
	keyOf := func(f impl.Found) key { return key{f.Cylinder, f.Head, f.Number, f.Size} }
	keys := []key{}
	for _, f := range slices.Concat(lists...) {
		if f.State != impl.StBadId && !slices.Contains(keys, keyOf(f)) {
			keys = append(keys, keyOf(f))
		}
	}
	slices.SortFunc(keys, func(a, b key) int { return slices.Compare(a[:], b[:]) })
	merged := []impl.Voted{}
	for _, k := range keys {
		v := impl.Voted{Cylinder: k[0], Head: k[1], Number: k[2], Size: k[3], State: impl.StNoData}
		data, deleted := map[int64][]string{}, map[int64]int{}
		for _, list := range lists {
			in := false
			for _, f := range list {
				if keyOf(f) != k || f.State == impl.StBadId {
					continue
				}
				in = true
				data[f.State] = append(data[f.State], f.Data)
				if f.Deleted {
					deleted[f.State]++
				}
			}
			if in {
				v.Votes++
			}
		}
		for _, state := range []int64{impl.StBadData, impl.StGood} {
			if len(data[state]) > 0 {
				v.State, v.Deleted = state, deleted[state] > len(data[state])-deleted[state]
				v.Data, v.Weak = plainVote(data[state])
			}
		}
		if v.State == impl.StGood && len(v.Weak) > 0 {
			v.State = impl.StWeak
		}
		merged = append(merged, v)
	}
	return merged
}

// mergedAre requires sectors, which are valid, and OK.
func mergedAre(t *testing.T, what string, lists [][]impl.Found, want ...impl.Voted) {
	t.Helper()
	got, c := impl.MergeFound(lists)
	code(t, what, c, impl.OK)
	if !impl.SameVoted(got, want) {
		t.Errorf("%s: got %s, want %s", what, brief(got), brief(want))
	}
	for _, v := range got {
		is(t, what+": valid", impl.ValidVoted(v), true)
	}
}

// goodData is a sector StGood with these bytes, and badData one StBadData.
func goodData(data string) impl.Found {
	return impl.Found{Cylinder: 3, Head: 1, Number: 2, Data: data, State: impl.StGood}
}

func badData(data string) impl.Found {
	f := goodData(data)
	f.State = impl.StBadData
	return f
}

// elects returns the sector with the address of goodData.
func elects(state, votes int64, data string, weak ...int64) impl.Voted {
	return impl.Voted{Cylinder: 3, Head: 1, Number: 2, Data: data, State: state, Weak: weak, Votes: votes}
}

func TestP11MergedStates(t *testing.T) {
	good, other := goodData("AAAAAAAA"), goodData("AABAAAAA")
	bad, worse := badData("xxxxxxxx"), badData("xaxxxxxy")
	none := impl.Found{Cylinder: 3, Head: 1, Number: 2, State: impl.StNoData}
	lost := impl.Found{Cylinder: 3, Head: 1, Number: 2, State: impl.StBadId}
	merged := func(what string, want impl.Voted, lists ...[]impl.Found) {
		t.Helper()
		mergedAre(t, what, lists, want)
		slices.Reverse(lists)
		mergedAre(t, what+", in another order", lists, want)
	}
	type l = []impl.Found
	merged("one good", elects(impl.StGood, 1, "AAAAAAAA"), l{good})
	merged("one bad", elects(impl.StBadData, 1, "xxxxxxxx"), l{bad})
	merged("one without data", elects(impl.StNoData, 1, ""), l{none})
	merged("a good one counts more than others", elects(impl.StGood, 5, "AAAAAAAA"), l{bad}, l{bad}, l{good}, l{none}, l{none})
	merged("bad ones count more than none", elects(impl.StBadData, 3, "xxxxxxxx"), l{none}, l{bad}, l{none})
	merged("good ones that differ", elects(impl.StWeak, 2, "AAAAAAAA", 2), l{good}, l{other})
	merged("most good ones", elects(impl.StWeak, 3, "AABAAAAA", 2), l{other}, l{good}, l{other})
	merged("bad ones do not vote", elects(impl.StWeak, 4, "AAAAAAAA", 2), l{badData("AABAAAAA")}, l{other}, l{good}, l{badData("AABAAAAA")})
	merged("bad ones do not weaken", elects(impl.StGood, 3, "AAAAAAAA"), l{bad}, l{good}, l{worse})
	merged("bad ones that differ", elects(impl.StBadData, 2, "xaxxxxxx", 1, 7), l{bad}, l{worse})
	merged("most bad ones", elects(impl.StBadData, 3, "xxxxxxxx", 1, 7), l{bad}, l{worse}, l{bad})
	merged("lost ones do not count", elects(impl.StGood, 1, "AAAAAAAA"), l{lost}, l{good}, l{lost, lost})
	merged("lost ones beside others", elects(impl.StNoData, 1, ""), l{lost, none}, l{lost})
	merged("lists without sectors", elects(impl.StGood, 2, "AAAAAAAA"), nil, l{good}, l{}, l{good})
	merged("MaxRevolutions", elects(impl.StGood, 5, "AAAAAAAA"), l{good}, l{good}, l{good}, l{good}, l{good})
	for _, lists := range [][]l{{nil}, {nil, nil, nil, nil, nil}, {{}}, {{lost}}, {{lost, lost}, nil, {lost}}} {
		mergedAre(t, "no sectors", lists)
	}
}

// Several sectors of one list all vote, but the list counts once.
func TestP11SameAddressInOneList(t *testing.T) {
	good, other, none := goodData("AAAAAAAA"), goodData("AABAAAAA"), impl.Found{Cylinder: 3, Head: 1, Number: 2, State: impl.StNoData}
	mergedAre(t, "twice", [][]impl.Found{{good, good}}, elects(impl.StGood, 1, "AAAAAAAA"))
	mergedAre(t, "two that differ", [][]impl.Found{{other, good}}, elects(impl.StWeak, 1, "AAAAAAAA", 2))
	mergedAre(t, "all of them vote", [][]impl.Found{{other, other}, {good}}, elects(impl.StWeak, 2, "AABAAAAA", 2))
	mergedAre(t, "also the second ones", [][]impl.Found{{good, other}, {none, other}}, elects(impl.StWeak, 2, "AABAAAAA", 2))
	mergedAre(t, "the best one of a list", [][]impl.Found{{none, badData("xxxxxxxx"), good}}, elects(impl.StGood, 1, "AAAAAAAA"))
	mergedAre(t, "no data twice", [][]impl.Found{{none, none}, {none}}, elects(impl.StNoData, 2, ""))
	// More strings vote than VoteBytes takes.
	full := slices.Repeat([]impl.Found{good}, impl.MaxMarks)
	mergedAre(t, "MaxMarks", [][]impl.Found{full}, elects(impl.StGood, 1, "AAAAAAAA"))
	mergedAre(t, "one more", [][]impl.Found{full, {other}}, elects(impl.StWeak, 2, "AAAAAAAA", 2))
	mergedAre(t, "all lists are full", [][]impl.Found{full, full, full, full, full}, elects(impl.StGood, 5, "AAAAAAAA"))
}

// Deleted needs more than half of the sectors that count.
func TestP11DeletedVotes(t *testing.T) {
	for _, base := range []impl.Found{goodData("AAAAAAAA"), badData("AAAAAAAA")} {
		for count := 1; count <= impl.MaxRevolutions; count++ {
			for set := range count + 1 {
				lists := [][]impl.Found{}
				for i := range count {
					f := base
					f.Deleted = i < set
					lists = append(lists, []impl.Found{f})
				}
				want := elects(base.State, int64(count), "AAAAAAAA")
				want.Deleted = set > count-set
				what := strconv.Itoa(set) + " of " + strconv.Itoa(count) + " are deleted"
				mergedAre(t, what, lists, want)
				mergedAre(t, what+" in one list", [][]impl.Found{slices.Concat(lists...)}, impl.Voted{Cylinder: 3, Head: 1, Number: 2, Data: "AAAAAAAA", State: base.State, Deleted: want.Deleted, Votes: 1})
			}
		}
	}
	deleted := badData("xxxxxxxx")
	deleted.Deleted = true
	mergedAre(t, "of bad ones beside good ones", [][]impl.Found{{deleted, deleted, deleted, goodData("AAAAAAAA")}}, elects(impl.StGood, 1, "AAAAAAAA"))
	good := goodData("AAAAAAAA")
	good.Deleted = true
	want := elects(impl.StGood, 1, "AAAAAAAA")
	want.Deleted = true
	mergedAre(t, "of good ones beside others", [][]impl.Found{{badData("xxxxxxxx"), good, badData("xxxxxxxx"), {Cylinder: 3, Head: 1, Number: 2, State: impl.StNoData}}}, want)
	want.Deleted, want.State, want.Data, want.Weak = false, impl.StWeak, "AAAAAAAA", []int64{2}
	mergedAre(t, "of those that lose", [][]impl.Found{{good, goodData("AABAAAAA")}}, want)
}

// All four numbers are an address, and sectors are sorted by them in their order.
func TestP11Addresses(t *testing.T) {
	var list []impl.Found
	var want []impl.Voted
	for i := range int64(81) {
		f := impl.Found{Cylinder: i / 27, Head: i / 9 % 3, Number: i / 3 % 3, Size: i % 3, State: impl.StNoData}
		if i%5 == 0 {
			f.State, f.Data = impl.StGood, strings.Repeat(strconv.FormatInt(i%10, 10), 8<<f.Size)
		}
		list = append(list, f)
		want = append(want, impl.Voted{Cylinder: f.Cylinder, Head: f.Head, Number: f.Number, Size: f.Size, Data: f.Data, State: f.State, Votes: 1})
	}
	mergedAre(t, "sorted", [][]impl.Found{list[:40], list[40:]}, want...)
	backwards := slices.Clone(list)
	slices.Reverse(backwards)
	mergedAre(t, "backwards", [][]impl.Found{backwards[:60], backwards[60:]}, want...)
	large := []impl.Found{{Number: 255, State: impl.StNoData}, {Number: 10, State: impl.StNoData}, {Number: 9, State: impl.StNoData}, {Number: 127, State: impl.StNoData}, {Number: 128, State: impl.StNoData}}
	merged, _ := impl.MergeFound([][]impl.Found{large})
	numbers := []int64{}
	for _, v := range merged {
		numbers = append(numbers, v.Number)
	}
	is(t, "as numbers", numbers, []int64{9, 10, 127, 128, 255})
}

func TestP11MergedLists(t *testing.T) {
	from := source(146)
	for range 400 {
		lists := make([][]impl.Found, 1+from.below(5))
		for i := range lists {
			for range from.below(9) {
				f := impl.Found{Cylinder: from.below(2), Number: from.below(2), Size: from.below(2), State: 1 + from.below(4), At: from.below(100)}
				if f.State == impl.StGood || f.State == impl.StBadData {
					f.Deleted = from.below(2) == 0
					f.Data = strings.Repeat(string(rune('a'+from.below(3)))+"b"+string(rune('a'+from.below(2)))+"d", 2<<f.Size)
				}
				lists[i] = append(lists[i], f)
			}
		}
		mergedAre(t, "some lists", lists, plainMerged(lists)...)
	}
}

func TestP11NoLists(t *testing.T) {
	none := func(what string, lists ...[]impl.Found) {
		t.Helper()
		got, c := impl.MergeFound(lists)
		is(t, what, []any{len(got), c}, []any{0, int64(impl.ErrInvalid)})
	}
	good := []impl.Found{goodData("AAAAAAAA")}
	none("no lists")
	none("too many lists", good, good, good, good, good, good)
	none("too many empty lists", nil, nil, nil, nil, nil, nil)
	none("too many sectors", slices.Repeat(good, impl.MaxMarks+1))
	none("too many sectors in the last list", good, slices.Repeat(good, impl.MaxMarks+1))
	none("too many sectors that do not count", slices.Repeat([]impl.Found{{State: impl.StBadId}}, impl.MaxMarks+1))
	for _, f := range invalidFound() {
		none("an invalid sector", []impl.Found{f})
		none("an invalid sector behind others", good, good, append(slices.Clone(good), f))
		none("an invalid sector before others", []impl.Found{f, good[0]}, nil)
	}
}

// readAre requires what is read in revolutions, and OK.
func readAre(t *testing.T, what string, list []string, format int64, want ...impl.Voted) {
	t.Helper()
	got, c := impl.ReadRevolutions(list, format)
	code(t, what, c, impl.OK)
	if !impl.SameVoted(got, want) {
		t.Errorf("%s: got %s, want %s", what, brief(got), brief(want))
	}
}

func TestP11ReadRevolutions(t *testing.T) {
	from := source(147)
	for _, format := range formats() {
		for range 40 {
			spec := from.sized(format, 2, from.below(3), from.below(3), from.below(3))
			cells := built(t, spec)
			list, lists := []string{}, [][]impl.Found{}
			for range 1 + from.below(5) {
				revolution := turned(cells, int(from.below(int64(len(cells)))))
				for range from.below(3) {
					revolution = otherCells(revolution, int(from.below(int64(len(cells)))))
				}
				list = append(list, revolution)
				found, _ := impl.ReadTrack(revolution, format)
				lists = append(lists, found)
			}
			readAre(t, "revolutions", list, format, plainMerged(lists)...)
		}
		readAre(t, "no sectors", []string{"0110", "0010"}, format)
		readAre(t, "cells that are all alike", slices.Repeat([]string{strings.Repeat("1", impl.MaxCells)}, 5), format)
	}
}

// What each revolution has wrong, another one has right. Votes tell how many have the sector at all.
func TestP11ReadMinorities(t *testing.T) {
	from := source(148)
	for _, format := range formats() {
		spec := from.sized(format, 3, 0, 1)
		for i := range spec.Sectors {
			s := &spec.Sectors[i]
			s.BadId, s.BadData, s.Deleted, s.Cylinder = false, false, i == 1, int64(i)
		}
		cells, marks := built(t, spec), plainBuilt(spec).marks
		want := []impl.Voted{}
		for _, s := range spec.Sectors {
			want = append(want, impl.Voted{Cylinder: s.Cylinder, Head: s.Head, Number: s.Number, Size: s.Size, Data: s.Data, State: impl.StGood, Deleted: s.Deleted, Votes: 3})
		}
		total := len(cells)
		inData := otherCells(cells, int(marks[1].Body)+17)
		noMark := otherCells(cells, int(marks[3].Body)-6)
		noId := otherCells(cells, int(marks[2].Body)+1)
		readAre(t, "all are right", []string{cells, turned(cells, 40), turned(cells, total-1)}, format, want...)
		readAre(t, "two are wrong in their data", []string{turned(inData, 99), cells, inData}, format, want...)
		readAre(t, "two are wrong in other places", []string{inData, cells, noMark}, format, want...)
		want[1].Votes = 2
		readAre(t, "an address is not read", []string{inData, noId, cells}, format, want...)
		want[1].Votes = 1
		readAre(t, "it is read only once", []string{noId, noId, cells}, format, want...)
	}
}

func TestP11NoRevolutions(t *testing.T) {
	none := func(what string, list []string, format, want int64) {
		t.Helper()
		got, c := impl.ReadRevolutions(list, format)
		is(t, what, []any{len(got), c}, []any{0, want})
	}
	full := strings.Repeat(markLiteral(impl.TfFm, impl.MkId), impl.MaxMarks+1)
	for _, format := range formats() {
		for _, list := range noRevolutions() {
			none("no revolutions", list, format, impl.ErrInvalid)
		}
	}
	for _, format := range noChoice() {
		none("no format", []string{"10", "01"}, format, impl.ErrInvalid)
		none("no format and many marks", []string{full, full}, format, impl.ErrInvalid)
		none("neither", nil, format, impl.ErrInvalid)
	}
	for _, format := range formats() {
		many := marked(format, slices.Repeat([]int64{impl.MkId}, impl.MaxMarks+1)...)
		few := strings.Repeat("10", len(many))[:len(many)]
		none("many marks", []string{many}, format, impl.ErrFull)
		none("many marks in the last one", []string{few, few, few, few, many}, format, impl.ErrFull)
		none("many marks in the first one", []string{many, few}, format, impl.ErrFull)
		none("many marks and another length", []string{many, few + "1"}, format, impl.ErrInvalid)
		none("many marks and no cells", []string{many, few[:len(few)-1] + "2"}, format, impl.ErrInvalid)
		none("many marks and too many revolutions", []string{many, few, few, few, few, few}, format, impl.ErrInvalid)
	}
}

func TestP11VotedText(t *testing.T) {
	for size := range int64(3) {
		last := strconv.Itoa(8<<size - 1)
		for i, v := range elected(size) {
			words := []string{"good votes 3", "good deleted votes 3", "weak votes 3 weak 0 3 " + last, "weak deleted votes 3 weak 0 3 " + last, "bad-data votes 3", "bad-data deleted votes 3 weak 0 3 " + last, "no-data votes 3"}
			is(t, "text", impl.VotedText(v), "3/1/2 "+strconv.FormatInt(size, 10)+" "+words[i])
		}
	}
	is(t, "large numbers", impl.VotedText(impl.Voted{Cylinder: 255, Head: 100, Number: 10, State: impl.StNoData, Votes: 5}), "255/100/10 0 no-data votes 5")
	is(t, "one weak byte", impl.VotedText(impl.Voted{Data: "ABCDEFGH", State: impl.StWeak, Weak: []int64{7}, Votes: 1}), "0/0/0 0 weak votes 1 weak 7")
	for _, v := range invalidVoted() {
		is(t, "no text", impl.VotedText(v), "")
	}
}
