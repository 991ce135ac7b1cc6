package tests

import (
	"math"
	"slices"
	"strconv"
	"strings"
	"testing"

	"loop.example/g00899/impl"
)

// cellsIn is the number of cells of a byte.
func cellsIn(format int64) int {
	if format == impl.TfGcr {
		return 10
	}
	return 16
}

// encoded returns the cells of bytes behind a bit 0.
func encoded(format int64, s string) string {
	p := plainTrack{format: format}
	if s != "" {
		p.bytes(s)
	}
	return p.cells
}

// plainRaw reads bytes bit by bit, or group by group.
func plainRaw(format int64, cells string) (string, bool) {
	bits, whole := "", true
	for at := 0; at < len(cells); at++ {
		switch {
		case format != impl.TfGcr && at%2 == 1:
			bits += cells[at : at+1]
		case format == impl.TfGcr && at%5 == 0:
			n := slices.Index(groupTable(), cells[at:at+5])
			whole = whole && n >= 0
			bits += strconv.FormatInt(int64(max(n, 0))+16, 2)[1:]
		}
	}
	out := []byte{}
	for ; bits != ""; bits = bits[8:] {
		n, _ := strconv.ParseUint(bits[:8], 2, 8)
		out = append(out, byte(n))
	}
	return string(out), whole
}

// plainRead reads a field cell by cell. It is no field if the track has fewer cells.
func plainRead(cells string, format int64, m impl.Mark, n int) (field string, right, ok bool) {
	count := (n + 2) * cellsIn(format)
	if count > len(cells) {
		return "", false, false
	}
	part := []byte{}
	for i := range count {
		part = append(part, cells[(int(m.Body)+i)%len(cells)])
	}
	bytes, whole := plainRaw(format, string(part))
	return bytes[:n], whole && bytes == plainField(format, m.Kind, bytes[:n], false), true
}

// plainDataMark follows the words of the document.
func plainDataMark(total int, list []impl.Mark, k int) (int, bool) {
	next := k + 1
	if next == len(list) {
		next = 0
	}
	steps := 0
	for place := list[k].Body; place != list[next].At; place = (place + 1) % int64(total) {
		steps++
	}
	if list[next].Kind == impl.MkId || steps > 320 {
		return 0, false
	}
	return next, true
}

// plainSector follows the words of the document.
func plainSector(cells string, format int64, list []impl.Mark, k int) impl.Found {
	f := impl.Found{At: list[k].At, State: impl.StBadId}
	id, right, ok := plainRead(cells, format, list[k], 4)
	if ok {
		f.Cylinder, f.Head, f.Number, f.Size = int64(id[0]), int64(id[1]), int64(id[2]), int64(id[3])
	}
	if !ok || !right || f.Size > 2 {
		return f
	}
	f.State = impl.StNoData
	next, ok := plainDataMark(len(cells), list, k)
	if !ok {
		return f
	}
	data, right, ok := plainRead(cells, format, list[next], []int{8, 16, 32}[f.Size])
	if !ok {
		return f
	}
	f.Data, f.Deleted, f.State = data, list[next].Kind == impl.MkDeleted, impl.StBadData
	if right {
		f.State = impl.StGood
	}
	return f
}

// foundAs returns how a sector of a track that begins by cells later is found, if its first mark was built at a place.
func foundAs(s impl.SectorSpec, at int64, by, total int) impl.Found {
	f := impl.Found{Cylinder: s.Cylinder, Head: s.Head, Number: s.Number, Size: s.Size, At: earlier(at, by, total), State: impl.StBadId}
	if s.BadId {
		return f
	}
	f.Data, f.Deleted, f.State = s.Data, s.Deleted, impl.StGood
	if s.BadData {
		f.State = impl.StBadData
	}
	return f
}

// foundIn returns what is found in a track that begins by cells later.
func foundIn(spec impl.TrackSpec, by int) []impl.Found {
	p := plainBuilt(spec)
	list := []impl.Found{}
	for i, s := range spec.Sectors {
		list = append(list, foundAs(s, p.marks[2*i].At, by, len(p.cells)))
	}
	slices.SortFunc(list, func(a, b impl.Found) int { return int(a.At - b.At) })
	return list
}

// foundAre requires sectors, which are valid, and OK.
func foundAre(t *testing.T, what, cells string, format int64, want []impl.Found) {
	t.Helper()
	got, c := impl.ReadTrack(cells, format)
	code(t, what, c, impl.OK)
	if !slices.Equal(got, want) {
		t.Errorf("%s: got %s, want %s", what, brief(got), brief(want))
	}
	for _, f := range got {
		is(t, what+": valid", impl.ValidFound(f), true)
	}
}

// sectorIs requires a sector, which is valid, and OK.
func sectorIs(t *testing.T, what, cells string, format int64, list []impl.Mark, k int64, want impl.Found) {
	t.Helper()
	got, c := impl.ReadSector(cells, format, list, k)
	code(t, what, c, impl.OK)
	is(t, what, got, want)
	is(t, what+": valid", impl.ValidFound(got), true)
}

// fieldIs requires the bytes of a field and OK.
func fieldIs(t *testing.T, what, cells string, format int64, m impl.Mark, field string, right bool) {
	t.Helper()
	got, gotRight, c := impl.FieldAt(cells, format, m, int64(len(field)))
	code(t, what, c, impl.OK)
	is(t, what, []any{got, gotRight}, []any{field, right})
}

// noField requires an error and no field.
func noField(t *testing.T, what, cells string, format int64, m impl.Mark, n, want int64) {
	t.Helper()
	got, right, c := impl.FieldAt(cells, format, m, n)
	code(t, what, c, want)
	is(t, what, []any{got, right}, []any{"", false})
}

func goodSector() impl.Found {
	return impl.Found{Cylinder: 3, Head: 1, Number: 2, Data: "ABCDEFGH", State: impl.StGood, At: 5}
}

// states are the sectors of all states with an address and a size.
func states(size int64) []impl.Found {
	list := slices.Repeat([]impl.Found{goodSector()}, 6)
	for i, state := range []int64{impl.StGood, impl.StGood, impl.StBadData, impl.StBadData, impl.StNoData, impl.StBadId} {
		list[i].State, list[i].Size, list[i].Data = state, size, ""
		if i < 4 {
			list[i].Data, list[i].Deleted = strings.Repeat("x", 8<<size), i%2 == 1
		}
	}
	return list
}

// invalidFound are sectors of which one field is wrong.
func invalidFound() []impl.Found {
	list := []impl.Found{{}, {Data: "ABCDEFGH"}}
	with := func(base impl.Found, change func(f *impl.Found)) {
		change(&base)
		list = append(list, base)
	}
	for _, base := range states(1) {
		for _, n := range []int64{-1, 256, 257, 1 << 32, math.MinInt64, math.MaxInt64} {
			with(base, func(f *impl.Found) { f.Cylinder = n })
			with(base, func(f *impl.Found) { f.Head = n })
			with(base, func(f *impl.Found) { f.Number = n })
			with(base, func(f *impl.Found) { f.Size = n })
		}
		for _, n := range []int64{-1, impl.MaxCells, math.MinInt64, math.MaxInt64} {
			with(base, func(f *impl.Found) { f.At = n })
		}
		for _, n := range []int64{0, 5, -1, 6, 1<<32 + 1, math.MinInt64, math.MaxInt64} {
			with(base, func(f *impl.Found) { f.State = n })
		}
		for _, n := range []int{1, 7, 8, 15, 17, 32} {
			with(base, func(f *impl.Found) { f.Data = strings.Repeat("x", n) })
		}
		if base.State != impl.StBadId {
			for _, n := range []int64{3, 4, 60, 63, 64, 255} {
				with(base, func(f *impl.Found) { f.Size = n })
			}
		}
		if base.Data == "" {
			with(base, func(f *impl.Found) { f.Deleted = true })
			with(base, func(f *impl.Found) { f.Data = strings.Repeat("x", 16) })
		} else {
			with(base, func(f *impl.Found) { f.Data = "" })
			with(base, func(f *impl.Found) { f.Size = 0 })
			with(base, func(f *impl.Found) { f.Size = 2 })
		}
	}
	return list
}

func TestP10ExamplesOfTheDocument(t *testing.T) {
	f := impl.Found{Head: 1, Number: 3, Size: 2, Data: strings.Repeat("x", 32), State: impl.StGood, Deleted: true, At: 117}
	is(t, "text", impl.FoundText(f), "0/1/3 2 good deleted at 117")
	is(t, "constants", []int64{impl.StGood, impl.StBadId, impl.StBadData, impl.StNoData, impl.MaxSearch}, []int64{1, 2, 3, 4, 320})
}

func TestP10ValidFound(t *testing.T) {
	for size := range int64(3) {
		for _, f := range states(size) {
			is(t, "valid "+brief(f), impl.ValidFound(f), true)
			f.Cylinder, f.Head, f.Number, f.At = 255, 0, 255, impl.MaxCells-1
			is(t, "at the ends "+brief(f), impl.ValidFound(f), true)
			f.Cylinder, f.Head, f.Number, f.At = 0, 255, 0, 0
			is(t, "at the other ends "+brief(f), impl.ValidFound(f), true)
		}
	}
	for _, size := range []int64{0, 2, 3, 63, 64, 255} {
		is(t, "any size", impl.ValidFound(impl.Found{State: impl.StBadId, Size: size}), true)
	}
	for _, f := range invalidFound() {
		is(t, "invalid "+brief(f), impl.ValidFound(f), false)
	}
}

// sameOnly requires that lists are the same only if they are equal. Of each element, changed returns others.
func sameOnly[T any](t *testing.T, same func(a, b []T) bool, list []T, changed func(T) []T) {
	t.Helper()
	is(t, "same", same(list, slices.Clone(list)), true)
	others := [][]T{nil, list[:len(list)-1], list[1:], append(slices.Clone(list), list[0])}
	for i := range list {
		for _, item := range changed(list[i]) {
			other := slices.Clone(list)
			other[i] = item
			others = append(others, other)
		}
	}
	for _, other := range others {
		is(t, "other lists", []bool{same(list, other), same(other, list), same(other, slices.Clone(other))}, []bool{false, false, true})
	}
	is(t, "many zeros", same(make([]T, 100), make([]T, 100)), true)
	is(t, "empty lists", []bool{same(nil, []T{}), same([]T{}, nil), same(nil, nil)}, []bool{true, true, true})
}

func TestP10SameFound(t *testing.T) {
	sameOnly(t, impl.SameFound, append(states(1), states(0)...), func(f impl.Found) []impl.Found {
		list := slices.Repeat([]impl.Found{f}, 8)
		list[0].Cylinder++
		list[1].Head++
		list[2].Number++
		list[3].Size++
		list[4].Data += "x"
		list[5].State++
		list[6].Deleted = !f.Deleted
		list[7].At++
		return list
	})
	is(t, "invalid sectors", impl.SameFound(invalidFound(), invalidFound()), true)
}

func TestP10RawBytes(t *testing.T) {
	from := source(120)
	for _, format := range formats() {
		most := impl.MaxCells / cellsIn(format)
		for _, count := range []int{0, 1, 2, 3, 40, most} {
			s := from.bytes(count)
			got, whole := impl.RawBytes(format, encoded(format, s))
			is(t, "bytes that were encoded", []any{got == s, whole}, []any{true, true})
			cells := from.cells(count*cellsIn(format), 2)
			want, wantWhole := plainRaw(format, cells)
			got, whole = impl.RawBytes(format, cells)
			is(t, "bytes of any cells", []any{got == want, whole}, []any{true, wantWhole})
		}
		wrong := []string{strings.Repeat("01", impl.MaxCells/2+1), strings.Repeat("1010101010", 8*most), strings.Repeat("1", impl.MaxCells+cellsIn(format))}
		for n := 1; n < 81; n++ {
			if n%cellsIn(format) > 0 {
				wrong = append(wrong, strings.Repeat("01101", 16)[:n])
			}
		}
		for _, s := range noCells() {
			wrong = append(wrong, s, strings.Repeat(s, 4))
		}
		for _, cells := range append(wrong, strings.Repeat("1", 79)+"2", "\xff"+strings.Repeat("0", 79), strings.Repeat("1", 78)+"\u00e9") {
			got, whole := impl.RawBytes(format, cells)
			is(t, "no cells of bytes "+brief(cells), []any{got, whole}, []any{"", false})
		}
	}
	for _, format := range noChoice() {
		for _, cells := range []string{"", strings.Repeat("01010", 16), strings.Repeat("1", impl.MaxCells)} {
			got, whole := impl.RawBytes(format, cells)
			is(t, "no format", []any{got, whole}, []any{"", false})
		}
	}
}

// Clock cells do not matter, and all data cells do.
func TestP10RawBytesOfClockedCells(t *testing.T) {
	for _, format := range []int64{impl.TfFm, impl.TfMfm} {
		cells := encoded(format, "\xa1\x0e\xff\x00")
		for at := range cells {
			got, whole := impl.RawBytes(format, otherCells(cells, at))
			want := []byte("\xa1\x0e\xff\x00")
			if at%2 == 1 {
				want[at/16] ^= 128 >> (at % 16 / 2)
			}
			is(t, "another cell", []any{got, whole}, []any{string(want), true})
		}
		got, whole := impl.RawBytes(format, strings.Repeat("0", 16)+strings.Repeat("1", 16)+impl.MfmMark())
		is(t, "cells that are no data", []any{got, whole}, []any{"\x00\xff\xa1", true})
	}
}

func TestP10RawBytesOfGroups(t *testing.T) {
	for _, upper := range allGroups() {
		for _, lower := range allGroups() {
			a, b := slices.Index(groupTable(), upper), slices.Index(groupTable(), lower)
			want := string([]byte{byte(16*max(a, 0) + max(b, 0)), 0x4e})
			got, whole := impl.RawBytes(impl.TfGcr, upper+lower+"0111011110")
			is(t, "groups "+upper+" "+lower, []any{got, whole}, []any{want, a >= 0 && b >= 0})
			got, whole = impl.RawBytes(impl.TfGcr, "0111011110"+upper+lower)
			is(t, "last groups "+upper+" "+lower, []any{got, whole}, []any{want[1:] + want[:1], a >= 0 && b >= 0})
		}
	}
	got, whole := impl.RawBytes(impl.TfGcr, strings.Repeat("00000", 4))
	is(t, "no values", []any{got, whole}, []any{"\x00\x00", false})
}

func TestP10Fields(t *testing.T) {
	from := source(121)
	for _, format := range formats() {
		for n := range 33 {
			for _, kind := range kinds() {
				s := from.bytes(n)
				straight := encoded(format, plainField(format, kind, s, false)) + from.cells(50, 2)
				by := int(from.below(int64(len(straight))))
				m := impl.Mark{Kind: kind, At: from.below(int64(len(straight))), Body: earlier(0, by, len(straight))}
				fieldIs(t, "field", turned(straight, by), format, m, s, true)
				m.Kind = kind%3 + 1
				fieldIs(t, "field behind another mark", turned(straight, by), format, m, s, false)
			}
		}
	}
}

// A field may begin at every cell, also at one of the last ones.
func TestP10FieldsAcrossTheBeginning(t *testing.T) {
	for _, format := range formats() {
		s := "\x00\x01\xfe\xff"
		straight := encoded(format, plainField(format, impl.MkId, s, false)) + "01101001"
		for by := range straight {
			m := impl.Mark{Kind: impl.MkId, Body: earlier(0, by, len(straight))}
			fieldIs(t, "turned by "+strconv.Itoa(by), turned(straight, by), format, m, s, true)
			m.Body = (m.Body + 1) % int64(len(straight))
			field, right, ok := plainRead(turned(straight, by), format, m, 4)
			is(t, "enough cells", ok, true)
			fieldIs(t, "a cell later "+strconv.Itoa(by), turned(straight, by), format, m, field, right)
		}
	}
}

func TestP10FieldsAsLongAsTheTrack(t *testing.T) {
	from := source(122)
	for _, format := range formats() {
		for _, n := range []int{0, 1, 4, 8, 16, 31, 32} {
			s := from.bytes(n)
			cells := encoded(format, plainField(format, impl.MkData, s, false))
			for _, by := range []int{0, 1, 5, len(cells) - 1} {
				m := impl.Mark{Kind: impl.MkData, At: 3, Body: earlier(0, by, len(cells))}
				fieldIs(t, "as many cells", turned(cells, by), format, m, s, true)
				if n > 0 {
					shorter := turned(cells, by)[1:]
					m.Body = min(m.Body, int64(len(shorter)-1))
					noField(t, "one cell more than the track", shorter, format, m, int64(n), impl.ErrRange)
				}
				if n < 32 {
					noField(t, "one byte more", turned(cells, by), format, m, int64(n+1), impl.ErrRange)
				}
			}
			fieldIs(t, "one cell fewer", cells+"0", format, impl.Mark{Kind: impl.MkData}, s, true)
		}
		short := strings.Repeat("1", 2*cellsIn(format)-1)
		noField(t, "no room for a checksum", short, format, impl.Mark{Kind: impl.MkId}, 0, impl.ErrRange)
		noField(t, "a single cell", "0", format, impl.Mark{Kind: impl.MkId}, 0, impl.ErrRange)
	}
}

// Each bit of a field and of its checksum counts, and each clock does not.
func TestP10OneOtherCellInAField(t *testing.T) {
	for _, format := range formats() {
		s := "\x03\x01\x02\x00\xff\x00\x4e\xa1"
		cells := encoded(format, plainField(format, impl.MkDeleted, s, false))
		for at := range cells {
			other := otherCells(cells, at) + "0110"
			want, _, _ := plainRead(other, format, impl.Mark{Kind: impl.MkDeleted}, 8)
			fieldIs(t, "another cell "+strconv.Itoa(at), other, format, impl.Mark{Kind: impl.MkDeleted}, want, format != impl.TfGcr && at%2 == 0)
		}
	}
}

// A group without a value reads as 0, so that the checksum is right where 0 was written. The field is not right, all the same.
func TestP10GroupsWithoutValue(t *testing.T) {
	from := source(130)
	seen := [12]int{}
	m := impl.Mark{Kind: impl.MkId}
	for range 2000 {
		s := "\x00" + from.bytes(2) + "\x40"
		cells := encoded(impl.TfGcr, plainField(impl.TfGcr, impl.MkId, s, false)) + "0110"
		for group := range seen {
			at := 5 * group
			if cells[at:at+5] != groupTable()[0] {
				continue
			}
			seen[group]++
			for _, wrong := range []string{"00000", "11111", "01000", "00101"} {
				fieldIs(t, "no value in group "+strconv.Itoa(group), cells[:at]+wrong+cells[at+5:], impl.TfGcr, m, s, false)
			}
		}
		fieldIs(t, "with all values", cells, impl.TfGcr, m, s, true)
		fieldIs(t, "no value behind the field", cells[:60]+"000000", impl.TfGcr, m, s, true)
	}
	for group, count := range seen {
		is(t, "0 in group "+strconv.Itoa(group), count > 50 || group == 6, true)
	}
}

func TestP10NoFields(t *testing.T) {
	cells, m := strings.Repeat("01", 400), impl.Mark{Kind: impl.MkData, At: 799, Body: 799}
	fieldIs(t, "at the end", cells, impl.TfFm, m, "", false)
	for _, format := range formats() {
		for _, n := range []int64{-1, 33, 34, 1 << 32, math.MinInt64, math.MaxInt64, math.MaxInt64 - 1, 1 << 60, 1 << 59} {
			noField(t, "no number of bytes", cells, format, m, n, impl.ErrRange)
			noField(t, "no mark before it", cells, format, impl.Mark{}, n, impl.ErrInvalid)
		}
		for _, wrong := range append(noCells(), "", cells+"2", cells+"\xff", strings.Repeat("1", impl.MaxCells+1)) {
			for _, n := range []int64{0, 4, 33, -1} {
				noField(t, "no cells", wrong, format, impl.Mark{Kind: impl.MkId}, n, impl.ErrInvalid)
			}
		}
		for _, n := range []int64{-1, 800, 801, math.MinInt64, math.MaxInt64} {
			noField(t, "no place of a mark", cells, format, impl.Mark{Kind: impl.MkId, At: n}, 4, impl.ErrInvalid)
			noField(t, "no place of a field", cells, format, impl.Mark{Kind: impl.MkId, Body: n}, 4, impl.ErrInvalid)
		}
		for _, kind := range noChoice() {
			noField(t, "no kind", cells, format, impl.Mark{Kind: kind, At: 1, Body: 2}, 4, impl.ErrInvalid)
		}
	}
	for _, format := range noChoice() {
		noField(t, "no format", cells, format, m, 4, impl.ErrInvalid)
		noField(t, "no format and no number of bytes", cells, format, m, 33, impl.ErrInvalid)
	}
}

// dataMarkIs requires a data mark, or none if want is negative, which does not depend on the format.
func dataMarkIs(t *testing.T, what string, total int, list []impl.Mark, k, want int64) {
	t.Helper()
	for _, format := range formats() {
		got, ok := impl.DataMarkOf(strings.Repeat("0", total), format, list, k)
		is(t, what, []any{got, ok}, []any{max(want, 0), want >= 0})
	}
}

func TestP10DataMarks(t *testing.T) {
	id := func(at, body int64) impl.Mark { return impl.Mark{Kind: impl.MkId, At: at, Body: body} }
	data := func(at int64) impl.Mark { return impl.Mark{Kind: impl.MkData, At: at, Body: at} }
	deleted := func(at int64) impl.Mark { return impl.Mark{Kind: impl.MkDeleted, At: at, Body: at} }
	dataMarkIs(t, "behind it", 1000, []impl.Mark{id(5, 10), data(20)}, 0, 1)
	dataMarkIs(t, "a deleted one", 1000, []impl.Mark{id(5, 10), deleted(20), data(30)}, 0, 1)
	dataMarkIs(t, "an id comes first", 1000, []impl.Mark{id(5, 10), id(15, 18), data(20)}, 0, -1)
	dataMarkIs(t, "the second id", 1000, []impl.Mark{id(5, 10), id(15, 18), data(20)}, 1, 2)
	dataMarkIs(t, "the last mark", 1000, []impl.Mark{data(20), id(900, 905)}, 1, 0)
	dataMarkIs(t, "the last mark and a deleted one", 1000, []impl.Mark{deleted(20), data(30), id(900, 905)}, 2, 0)
	dataMarkIs(t, "the last mark and an id", 1000, []impl.Mark{id(5, 10), data(30), id(900, 905)}, 2, -1)
	dataMarkIs(t, "the only mark", 1000, []impl.Mark{id(5, 10)}, 0, -1)
	dataMarkIs(t, "the only mark and nothing else", 1, []impl.Mark{id(0, 0)}, 0, -1)
	dataMarkIs(t, "at its body", 1000, []impl.Mark{id(5, 10), data(10)}, 0, 1)
	dataMarkIs(t, "before its body", 1000, []impl.Mark{id(5, 10), data(9)}, 0, -1)
	dataMarkIs(t, "before its body on a short track", 321, []impl.Mark{id(5, 10), data(9)}, 0, 1)
	dataMarkIs(t, "before its body on a longer one", 322, []impl.Mark{id(5, 10), data(9)}, 0, -1)
}

func TestP10MaxSearch(t *testing.T) {
	for _, total := range []int{322, 323, 400, 999, impl.MaxCells} {
		for _, body := range []int64{0, 1, 10, int64(total) - 320, int64(total) - 1, int64(total) - 2} {
			for steps := int64(0); steps < min(int64(total)-1, 330); steps++ {
				// A mark of an id field stands right behind the body, so that data marks nearer than two cells are left out.
				at := (body + steps) % int64(total)
				list := []impl.Mark{{Kind: impl.MkId, At: (body + int64(total) - 1) % int64(total), Body: body}, {Kind: impl.MkData, At: at, Body: 0}}
				k, want := int64(0), int64(1)
				if list[0].At > at {
					list[0], list[1], k, want = list[1], list[0], 1, 0
				}
				if steps > 320 {
					want = -1
				}
				dataMarkIs(t, "after "+strconv.FormatInt(steps, 10), total, list, k, want)
			}
		}
	}
}

func TestP10NoDataMarks(t *testing.T) {
	cells := strings.Repeat("01", 50)
	list := []impl.Mark{{Kind: impl.MkId, At: 5, Body: 10}, {Kind: impl.MkData, At: 20, Body: 30}, {Kind: impl.MkDeleted, At: 40, Body: 99}}
	full := append(spread(upTo(impl.MaxMarks)...), impl.Mark{Kind: impl.MkData, At: 80})
	none := func(what, cells string, format int64, list []impl.Mark, k, want int64) {
		t.Helper()
		got, ok := impl.DataMarkOf(cells, format, list, k)
		is(t, what, []any{got, ok}, []any{int64(0), false})
		f, c := impl.ReadSector(cells, format, list, k)
		code(t, what, c, want)
		is(t, what, f, impl.Found{})
	}
	for _, format := range formats() {
		for _, k := range []int64{-1, 3, 4, math.MinInt64, math.MaxInt64} {
			none("no index", cells, format, list, k, impl.ErrNotFound)
			none("no index and no kind", cells, format, append([]impl.Mark{{At: 1}}, list...), k+9, impl.ErrInvalid)
			none("no marks", cells, format, nil, k, impl.ErrNotFound)
			none("no cells and no index", "", format, list, k, impl.ErrInvalid)
		}
		none("a data mark", cells, format, list, 1, impl.ErrState)
		none("a deleted one", cells, format, list, 2, impl.ErrState)
		none("no marks", cells, format, nil, 0, impl.ErrNotFound)
		for _, k := range []int64{0, 1, 3} {
			none("a place behind the cells", cells[:99], format, list, k, impl.ErrInvalid)
			none("a mark behind the cells", cells[:40], format, []impl.Mark{{Kind: impl.MkId, At: 5}, {Kind: impl.MkData, At: 40}}, k, impl.ErrInvalid)
			none("marks out of order", cells, format, []impl.Mark{list[1], list[0]}, k, impl.ErrInvalid)
			none("the same mark again", cells, format, []impl.Mark{list[0], list[0]}, k, impl.ErrInvalid)
			none("too many marks", cells, format, full, k, impl.ErrInvalid)
			none("no kind", cells, format, []impl.Mark{list[0], {Kind: 4, At: 20}}, k, impl.ErrInvalid)
			for _, wrong := range append(noCells(), "", cells[:99]+"2", cells+"\xff", strings.Repeat("1", impl.MaxCells+1)) {
				none("no cells", wrong, format, nil, k, impl.ErrInvalid)
				none("no cells", wrong, format, []impl.Mark{{Kind: impl.MkId}}, k, impl.ErrInvalid)
			}
		}
	}
	for _, format := range noChoice() {
		for k := range int64(4) {
			none("no format", cells, format, list, k, impl.ErrInvalid)
		}
	}
}

// A sector of each state, alone on its track, of which the parts are put together by hand.
func TestP10StatesOfSectors(t *testing.T) {
	from := source(123)
	for _, format := range formats() {
		for size := range int64(3) {
			for flags := range 8 {
				s := from.sector(size)
				s.BadId, s.BadData, s.Deleted = flags&1 > 0, flags&2 > 0, flags&4 > 0
				lead := between(format) + markLiteral(format, impl.MkId) + encoded(format, plainId(format, s)) + "10"
				cells := lead + markLiteral(format, plainKind(s)) + encoded(format, plainData(format, s)) + "0"
				at := int64(len(between(format)))
				foundAre(t, "a sector", cells, format, []impl.Found{foundAs(s, at, 0, len(cells))})
				want := foundAs(s, at, 0, len(cells))
				if !s.BadId {
					want.State, want.Data, want.Deleted = impl.StNoData, "", false
				}
				foundAre(t, "without a data field", lead+strings.Repeat("01001", 40)+"0", format, []impl.Found{want})
				list := []impl.Mark{{Kind: impl.MkId, At: at, Body: at + int64(len(markLiteral(format, impl.MkId)))}}
				sectorIs(t, "without a data mark", cells, format, list, 0, want)
			}
		}
	}
}

func TestP10SizesAboveMaxSize(t *testing.T) {
	for _, format := range formats() {
		for size := range 256 {
			id := plainField(format, impl.MkId, string([]byte{7, 8, 9, byte(size)}), false)
			data := plainField(format, impl.MkData, strings.Repeat("d", 32), false)
			cells := between(format) + markLiteral(format, impl.MkId) + encoded(format, id) + "10" + markLiteral(format, impl.MkData) + encoded(format, data) + "0"
			want := impl.Found{Cylinder: 7, Head: 8, Number: 9, Size: int64(size), State: impl.StBadId, At: int64(len(between(format)))}
			switch size {
			case 0, 1:
				want.State, want.Data = impl.StBadData, strings.Repeat("d", 8<<size)
			case 2:
				want.State, want.Data = impl.StGood, strings.Repeat("d", 32)
			}
			foundAre(t, "size "+strconv.Itoa(size), cells, format, []impl.Found{want})
		}
	}
}

// Behind MaxSearch cells the data field still belongs to the id field, and behind one more it does not.
func TestP10DataFieldsAreSearchedFor(t *testing.T) {
	for _, format := range formats() {
		s := sampleSector()
		// Its last cell is 0, so that no sync begins in it.
		id := encoded(format, plainId(format, s)) + "0"
		for steps := len(id); steps <= 330; steps++ {
			gap := strings.Repeat("10", 200)
			gap = gap[len(gap)-steps+len(id):]
			cells := between(format) + markLiteral(format, impl.MkId) + id + gap + markLiteral(format, impl.MkData) + encoded(format, plainData(format, s)) + "0"
			want := foundAs(s, int64(len(between(format))), 0, len(cells))
			if steps > 320 {
				want.State, want.Data = impl.StNoData, ""
			}
			foundAre(t, "after "+strconv.Itoa(steps), cells, format, []impl.Found{want})
		}
	}
}

// The fields of a sector may share their cells if the marks say so. With fewer cells than a field has, it is missing.
func TestP10FieldsOfShortTracks(t *testing.T) {
	from := source(124)
	for _, format := range formats() {
		for size := range int64(3) {
			id := plainField(format, impl.MkId, string([]byte{9, 8, 7, byte(size)}), false)
			data := id + from.bytes((8<<size)-6)
			straight := encoded(format, plainField(format, impl.MkDeleted, data, false))
			for by := range straight {
				cells, body := turned(straight, by), earlier(0, by, len(straight))
				list := []impl.Mark{{Kind: impl.MkId, At: 0, Body: body}, {Kind: impl.MkDeleted, At: body/2 + 1, Body: body}}
				want := impl.Found{Cylinder: 9, Head: 8, Number: 7, Size: size}
				if _, ok := plainDataMark(len(cells), list, 0); !ok {
					want.State = impl.StNoData
				} else {
					want.State, want.Data, want.Deleted = impl.StGood, data, true
				}
				sectorIs(t, "as many cells as the track", cells, format, list, 0, want)
			}
			short, list := straight[:len(straight)-1], []impl.Mark{{Kind: impl.MkId, At: 2}, {Kind: impl.MkDeleted, At: 9}}
			sectorIs(t, "one cell more than the track", short, format, list, 0, impl.Found{Cylinder: 9, Head: 8, Number: 7, Size: size, State: impl.StNoData, At: 2})
			least := straight[:6*cellsIn(format)]
			sectorIs(t, "only an id field", least, format, list, 0, impl.Found{Cylinder: 9, Head: 8, Number: 7, Size: size, State: impl.StNoData, At: 2})
			sectorIs(t, "not even an id field", least[1:], format, list, 0, impl.Found{State: impl.StBadId, At: 2})
			sectorIs(t, "a few cells", straight[:10], format, list, 0, impl.Found{State: impl.StBadId, At: 2})
		}
	}
}

func TestP10TracksAreReadAsTheyWereBuilt(t *testing.T) {
	from := source(125)
	for _, format := range formats() {
		for count := range int64(9) {
			for range 6 {
				spec := from.track(format, count)
				if impl.TrackCells(spec) > impl.MaxCells {
					continue
				}
				cells := built(t, spec)
				for _, by := range []int{0, 1, len(cells) - 1, int(from.below(int64(len(cells)))), int(from.below(int64(len(cells))))} {
					foundAre(t, "turned by "+strconv.Itoa(by), turned(cells, by), format, foundIn(spec, by))
				}
			}
		}
	}
}

func TestP10TracksAreReadFromEachCell(t *testing.T) {
	from := source(126)
	for _, format := range formats() {
		spec := from.sized(format, 1, 0, 2, 1)
		spec.Sectors[0].BadId, spec.Sectors[1].BadId, spec.Sectors[2].BadId = false, true, false
		spec.Sectors[2].BadData, spec.Sectors[2].Deleted = true, true
		cells := built(t, spec)
		for by := range cells {
			foundAre(t, "turned by "+strconv.Itoa(by), turned(cells, by), format, foundIn(spec, by))
		}
		only := impl.TrackSpec{Format: format, Gap: 1, Sectors: spec.Sectors[:1]}
		cells = built(t, only)
		for by := range cells {
			foundAre(t, "one sector turned by "+strconv.Itoa(by), turned(cells, by), format, foundIn(only, by))
		}
	}
}

// Sectors that are good or have bad data are described as they were built.
func TestP10SpecsOfTracks(t *testing.T) {
	from := source(127)
	for _, format := range formats() {
		for count := range int64(9) {
			spec := from.track(format, count)
			for i := range spec.Sectors {
				spec.Sectors[i].BadId = false
			}
			if impl.TrackCells(spec) > impl.MaxCells {
				continue
			}
			list, _ := impl.ReadTrack(built(t, spec), format)
			specs, c := impl.SpecsOf(list)
			code(t, "descriptions", c, impl.OK)
			is(t, "same descriptions", slices.Equal(specs, spec.Sectors), true)
		}
	}
}

// Whatever is damaged, a track is read by the words of the document.
func TestP10DamagedTracks(t *testing.T) {
	from := source(128)
	seen := [5]int{}
	for _, format := range formats() {
		for range 400 {
			spec := from.sized(format, 1+from.below(3), from.below(3), from.below(3))
			cells := []byte(built(t, spec))
			for range from.below(6) {
				at, count := int(from.below(int64(len(cells)))), int(from.below(20))
				for i := range count {
					cells[(at+i)%len(cells)] = byte('0' + from.below(2))
				}
			}
			if from.below(3) == 0 {
				cells = cells[:from.below(int64(len(cells)))+1]
			}
			list := plainMarks(string(cells), format)
			want := []impl.Found{}
			for k, m := range list {
				if m.Kind == impl.MkId {
					want = append(want, plainSector(string(cells), format, list, k))
					seen[want[len(want)-1].State]++
					sectorIs(t, "damaged sector", string(cells), format, list, int64(k), want[len(want)-1])
				}
			}
			foundAre(t, "damaged track", string(cells), format, want)
		}
	}
	for state := impl.StGood; state <= impl.StNoData; state++ {
		is(t, "seen often: "+strconv.Itoa(state), seen[state] > 50, true)
	}
}

// withField returns the cells of a track in which the bytes of a field, with its checksum, are replaced.
func withField(cells string, format int64, m impl.Mark, field string) string {
	out := []byte(cells)
	for i, b := range []byte(encoded(format, field)) {
		// Clock cells stay as they were, like on a disc of which bits are changed.
		if format == impl.TfGcr || i%2 == 1 {
			out[(int(m.Body)+i)%len(out)] = b
		}
	}
	return string(out)
}

// burst returns bytes with changed bits, of which the first one is at a place and all are among 16.
func (s *source) burst(field string, at int) string {
	out := []byte(field)
	out[at/8] ^= 128 >> (at % 8)
	for i := at + 1; i < min(at+16, 8*len(field)); i++ {
		out[i/8] ^= byte(s.below(2)) * (128 >> (i % 8))
	}
	return string(out)
}

func TestP10ChangedBitsAreNoticed(t *testing.T) {
	from := source(129)
	for _, format := range formats() {
		for size := range int64(3) {
			spec := from.sized(format, 2, size, 0)
			spec.Sectors[0].BadId, spec.Sectors[0].BadData = false, false
			cells, marks, want := built(t, spec), plainBuilt(spec).marks, foundIn(spec, 0)
			field := plainData(format, spec.Sectors[0])
			want[0].State = impl.StBadData
			for at := range 8 * len(field) {
				for range 4 {
					changed := from.burst(field, at)
					want[0].Data = changed[:len(changed)-2]
					foundAre(t, "changed from bit "+strconv.Itoa(at), withField(cells, format, marks[1], changed), format, want)
				}
			}
		}
	}
}

// Every change of up to 16 consecutive bits of a field is noticed, not only some.
func TestP10AllBurstsAreNoticed(t *testing.T) {
	s := "\x41\x00\xff\x5a\xe5\x4e\x99\x10"
	m := impl.Mark{Kind: impl.MkData}
	for _, at := range []int{0, 40, 64} {
		straight := encoded(impl.TfFm, plainField(impl.TfFm, impl.MkData, s, false))
		for pattern := 1; pattern < 65536; pattern += 1 + pattern%7 {
			cells := []byte(straight)
			for i := range 16 {
				cells[2*(at+i)+1] ^= byte(pattern >> i & 1)
			}
			_, right, c := impl.FieldAt(string(cells), impl.TfFm, m, 8)
			if right || c != impl.OK {
				t.Fatalf("not noticed: %016b at %d", pattern, at)
			}
		}
	}
}

func TestP10NoTracks(t *testing.T) {
	none := func(what, cells string, format, want int64) {
		t.Helper()
		got, c := impl.ReadTrack(cells, format)
		code(t, what, c, want)
		is(t, what, len(got), 0)
	}
	for _, format := range formats() {
		for _, cells := range append(noCells(), "", strings.Repeat("1", impl.MaxCells+1), marked(format, 1, 2)+"2", marked(format, 1)+"\xff") {
			none("no cells", cells, format, impl.ErrInvalid)
		}
		kinds := slices.Repeat([]int64{impl.MkId}, impl.MaxMarks)
		cells := marked(format, kinds...)
		list, c := impl.ReadTrack(cells, format)
		code(t, "MaxMarks marks", c, impl.OK)
		is(t, "MaxMarks sectors", len(list), impl.MaxMarks)
		none("one more", marked(format, append(kinds, impl.MkData)...), format, impl.ErrFull)
		for _, cells := range []string{"0", "1", strings.Repeat("10", 200), strings.Repeat("1", impl.MaxCells), marked(format, impl.MkData, impl.MkDeleted)} {
			foundAre(t, "no sectors", cells, format, nil)
		}
	}
	for _, format := range noChoice() {
		none("no format", marked(impl.TfFm, 1, 2), format, impl.ErrInvalid)
		none("no format and many marks", strings.Repeat(markLiteral(impl.TfFm, 1), 70), format, impl.ErrInvalid)
	}
}

func TestP10SpecsOf(t *testing.T) {
	var list []impl.Found
	var want []impl.SectorSpec
	for size := range int64(2) {
		for _, f := range states(size)[:4] {
			list = append(list, f)
			want = append(want, impl.SectorSpec{Cylinder: 3, Head: 1, Number: 2, Size: size, Data: f.Data, Deleted: f.Deleted, BadData: f.State == impl.StBadData})
		}
	}
	for count := range 9 {
		specs, c := impl.SpecsOf(list[:count])
		code(t, "descriptions", c, impl.OK)
		is(t, "descriptions", slices.Equal(specs, want[:count]), true)
	}
	none := func(what string, wrong int64, list ...impl.Found) {
		t.Helper()
		specs, c := impl.SpecsOf(list)
		code(t, what, c, wrong)
		is(t, what, len(specs), 0)
	}
	many := slices.Repeat([]impl.Found{goodSector()}, impl.MaxMarks+1)
	none("more than MaxSectors", impl.ErrFull, many[:9]...)
	none("MaxMarks", impl.ErrFull, many[:64]...)
	none("more than MaxMarks", impl.ErrInvalid, many...)
	for _, bad := range states(1)[4:] {
		none("only a damaged one", impl.ErrDamaged, bad)
		none("a damaged one behind", impl.ErrDamaged, goodSector(), bad)
		none("a damaged one before", impl.ErrDamaged, append([]impl.Found{bad}, many[:40]...)...)
		none("a damaged one behind many", impl.ErrDamaged, append(many[:40:40], bad)...)
		none("damaged and too many", impl.ErrInvalid, append(many[:64:64], bad)...)
		for _, f := range invalidFound() {
			none("an invalid one behind", impl.ErrInvalid, bad, f)
			none("an invalid one behind many", impl.ErrInvalid, append(append(many[:9:9], bad), f)...)
		}
	}
}

func TestP10BestFound(t *testing.T) {
	of := func(number, state int64) impl.Found {
		f := goodSector()
		f.Number, f.State = number, state
		if state == impl.StNoData || state == impl.StBadId {
			f.Data = ""
		}
		return f
	}
	best := func(what string, list []impl.Found, cylinder, head, number, want int64) {
		t.Helper()
		got, ok := impl.BestFound(list, cylinder, head, number)
		is(t, what, []any{got, ok}, []any{max(want, 0), want >= 0})
	}
	var list []impl.Found
	for _, r := range [][3]int64{{1, impl.StBadId, -1}, {2, impl.StNoData, 0}, {3, impl.StBadData, 0}, {4, impl.StGood, 0}} {
		list = append(list, of(r[0], r[1]))
	}
	list = append(list, of(5, 4), of(5, 4), of(5, 2), of(6, 4), of(6, 3), of(6, 3), of(7, 4), of(7, 3), of(7, 1), of(7, 1), of(7, 2), of(8, 1), of(8, 3))
	for number, want := range []int64{-1, -1, 1, 2, 3, 4, 8, 12, 15, -1} {
		best("number "+strconv.Itoa(number), list, 3, 1, int64(number), want)
		best("another head", list, 3, 0, int64(number), -1)
		best("another cylinder", list, 1, 1, int64(number), -1)
	}
	larger := of(2, impl.StGood)
	larger.Size, larger.Data = 1, strings.Repeat("x", 16)
	best("another size", append(slices.Clone(list), larger), 3, 1, 2, int64(len(list)))
	best("only the size differs", []impl.Found{of(2, impl.StBadData), larger, of(2, impl.StGood)}, 3, 1, 2, 1)
	for _, n := range []int64{-1, 256, math.MinInt64, math.MaxInt64} {
		best("no number", list, 3, 1, n, -1)
		best("no head", list, 3, n, 2, -1)
		best("no cylinder", list, n, 1, 2, -1)
	}
	best("no sectors", nil, 0, 0, 0, -1)
	many := slices.Repeat([]impl.Found{of(4, impl.StGood)}, impl.MaxMarks+1)
	best("MaxMarks sectors", many[:64], 3, 1, 4, 0)
	best("more sectors", many, 3, 1, 4, -1)
	for _, f := range invalidFound() {
		best("an invalid sector", append(slices.Clone(list), f), 3, 1, 4, -1)
		best("only an invalid sector", []impl.Found{f}, f.Cylinder, f.Head, f.Number, -1)
	}
}

func TestP10FoundText(t *testing.T) {
	for size := range int64(3) {
		for i, f := range states(size) {
			want := "3/1/2 " + strconv.FormatInt(size, 10) + " " + []string{"good", "good deleted", "bad-data", "bad-data deleted", "no-data", "bad-id"}[i] + " at 5"
			is(t, "text", impl.FoundText(f), want)
		}
	}
	is(t, "large numbers", impl.FoundText(impl.Found{Cylinder: 255, Head: 100, Number: 10, Size: 255, State: impl.StBadId, At: 7999}), "255/100/10 255 bad-id at 7999")
	is(t, "zeros", impl.FoundText(impl.Found{State: impl.StNoData}), "0/0/0 0 no-data at 0")
	for _, f := range invalidFound() {
		is(t, "no text", impl.FoundText(f), "")
	}
}
