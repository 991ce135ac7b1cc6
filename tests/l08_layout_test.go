package tests

import (
	"math"
	"slices"
	"strconv"
	"strings"
	"testing"

	"loop.example/g00899/impl"
)

// plainTrack is a track that is written part by part with the numbers of the document.
type plainTrack struct {
	format int64
	cells  string
	last   bool
	marks  []impl.Mark
}

// bytes writes bytes with their clocks, or in groups.
func (p *plainTrack) bytes(s string) {
	if p.format != impl.TfGcr {
		p.cells += cellsBitByBit(s, p.last, p.format == impl.TfMfm)
		p.last = s[len(s)-1]%2 == 1
		return
	}
	for i := range len(s) {
		p.cells += groupTable()[s[i]/16] + groupTable()[s[i]%16]
	}
}

// mark writes a run-in and a mark. In the group code, the sync of the mark begins with the last four cells of the filler, which are 1.
func (p *plainTrack) mark(kind int64) {
	runIn := [...]string{impl.TfFm: "\x00\x00", impl.TfMfm: "\x00\x00\x00", impl.TfGcr: ""}[p.format]
	at := len(p.cells) - 4
	if p.format == impl.TfGcr {
		p.cells += "1111111111"
	} else {
		p.bytes(runIn)
		at = len(p.cells)
	}
	p.cells += markLiteral(p.format, kind)
	p.last = kind == impl.MkData
	p.marks = append(p.marks, impl.Mark{Kind: kind, At: int64(at), Body: int64(len(p.cells))})
}

// plainField returns the bytes of a field and their checksum, which plainCheck computes bit by bit.
func plainField(format, kind int64, field string, wrong bool) string {
	before := [...]string{impl.TfFm: "", impl.TfMfm: "\xa1\xa1\xa1", impl.TfGcr: ""}[format]
	mark := [...]string{"", "\xfe", "\xfb", "\xf8"}[kind]
	if format == impl.TfGcr {
		mark = [...]string{"", "\x08", "\x07", "\x06"}[kind]
	}
	check := plainCheck(before+mark+field, 65535)
	if wrong {
		check = 65535 - check
	}
	return field + string([]byte{byte(check / 256), byte(check % 256)})
}

func plainId(format int64, s impl.SectorSpec) string {
	return plainField(format, impl.MkId, string([]byte{byte(s.Cylinder), byte(s.Head), byte(s.Number), byte(s.Size)}), s.BadId)
}

func plainKind(s impl.SectorSpec) int64 {
	if s.Deleted {
		return impl.MkDeleted
	}
	return impl.MkData
}

func plainData(format int64, s impl.SectorSpec) string {
	return plainField(format, plainKind(s), s.Data, s.BadData)
}

// plainBuilt writes all parts of a track in the order of the document.
func plainBuilt(t impl.TrackSpec) plainTrack {
	filler := [...]string{impl.TfFm: "\xff", impl.TfMfm: "\x4e", impl.TfGcr: "\x55"}[t.Format]
	p := plainTrack{format: t.Format}
	for _, s := range t.Sectors {
		p.bytes(strings.Repeat(filler, int(t.Gap)))
		p.mark(impl.MkId)
		p.bytes(plainId(t.Format, s))
		p.bytes(filler + filler)
		p.mark(plainKind(s))
		p.bytes(plainData(t.Format, s))
	}
	p.bytes(strings.Repeat(filler, int(t.Gap)))
	return p
}

// plainSize is the number of cells of a sector, by the bytes of its parts.
func plainSize(format, size int64) int64 {
	data := []int64{8, 16, 32}[size]
	switch format {
	case impl.TfFm:
		return 16 * (2 + 1 + 6 + 2 + 2 + 1 + data + 2)
	case impl.TfMfm:
		return 16 * (3 + 4 + 6 + 2 + 3 + 4 + data + 2)
	}
	return 10 * (1 + 2 + 6 + 2 + 1 + 2 + data + 2)
}

// sector returns a sector of a size with all kinds of other fields.
func (s *source) sector(size int64) impl.SectorSpec {
	flags := s.below(8)
	return impl.SectorSpec{Cylinder: s.below(256), Head: s.below(256), Number: s.below(256), Size: size, Data: s.bytes(8 << size), Deleted: flags&1 > 0, BadId: flags&2 > 0, BadData: flags&4 > 0}
}

// sized returns a track with sectors of these sizes.
func (s *source) sized(format, gap int64, sizes ...int64) impl.TrackSpec {
	t := impl.TrackSpec{Format: format, Gap: gap}
	for _, size := range sizes {
		t.Sectors = append(t.Sectors, s.sector(size))
	}
	return t
}

// track returns any track with as many sectors.
func (s *source) track(format, count int64) impl.TrackSpec {
	sizes := []int64{}
	for range count {
		sizes = append(sizes, s.below(3))
	}
	return s.sized(format, 1+s.below(20), sizes...)
}

// isBuilt requires a track with exactly the cells and marks of its parts.
func isBuilt(t *testing.T, what string, spec impl.TrackSpec) string {
	t.Helper()
	want := plainBuilt(spec)
	cells, c := impl.BuildTrack(spec)
	code(t, what, c, impl.OK)
	if cells != want.cells {
		t.Errorf("%s: other cells: got %d, want %d", what, len(cells), len(want.cells))
	}
	is(t, what+": number of cells", impl.TrackCells(spec), int64(len(want.cells)))
	marksAre(t, what, cells, spec.Format, want.marks)
	return cells
}

func sampleSector() impl.SectorSpec {
	return impl.SectorSpec{Cylinder: 3, Head: 1, Number: 2, Data: "ABCDEFGH"}
}

func sampleTrack() impl.TrackSpec {
	deleted := impl.SectorSpec{Cylinder: 3, Head: 1, Number: 255, Size: 1, Data: "ABCDEFGHIJKLMNOP", Deleted: true}
	return impl.TrackSpec{Format: impl.TfMfm, Gap: 4, Sectors: []impl.SectorSpec{sampleSector(), deleted}}
}

// changedSectors are other sectors than s, each in one field.
func changedSectors(s impl.SectorSpec) []impl.SectorSpec {
	list := slices.Repeat([]impl.SectorSpec{s}, 8)
	list[0].Cylinder++
	list[1].Head++
	list[2].Number++
	list[3].Size++
	list[4].Data += "x"
	list[5].Deleted = !s.Deleted
	list[6].BadId = !s.BadId
	list[7].BadData = !s.BadData
	return list
}

// invalidSectors are sectors of which one field is wrong.
func invalidSectors() []impl.SectorSpec {
	var list []impl.SectorSpec
	for _, n := range []int64{-1, 256, 257, 1 << 32, math.MinInt64, math.MaxInt64} {
		a, b, c := sampleSector(), sampleSector(), sampleSector()
		a.Cylinder, b.Head, c.Number = n, n, n
		list = append(list, a, b, c)
	}
	for _, size := range []int64{-1, 3, 4, 60, 61, 63, 64, 1 << 32, math.MinInt64, math.MaxInt64} {
		for _, data := range []string{"", "ABCDEFGH", strings.Repeat("x", 4), strings.Repeat("x", 64)} {
			list = append(list, impl.SectorSpec{Size: size, Data: data})
		}
	}
	for size := range int64(3) {
		for _, count := range []int64{0, 1, 7, 8, 9, 15, 16, 17, 31, 32, 33, 64} {
			if count != 8<<size {
				list = append(list, impl.SectorSpec{Size: size, Data: strings.Repeat("x", int(count))})
			}
		}
	}
	return append(list, impl.SectorSpec{})
}

// invalidTracks are tracks of which one field is wrong.
func invalidTracks() []impl.TrackSpec {
	var list []impl.TrackSpec
	for _, n := range noChoice() {
		t := sampleTrack()
		t.Format = n
		list = append(list, t, impl.TrackSpec{Format: n, Gap: 1})
	}
	for _, gap := range []int64{0, -1, 21, 22, 1 << 32, math.MinInt64, math.MaxInt64} {
		t := sampleTrack()
		t.Gap = gap
		list = append(list, t, impl.TrackSpec{Format: impl.TfFm, Gap: gap})
	}
	for _, s := range invalidSectors() {
		list = append(list, impl.TrackSpec{Format: impl.TfGcr, Gap: 2, Sectors: []impl.SectorSpec{s}}, impl.TrackSpec{Format: impl.TfMfm, Gap: 2, Sectors: []impl.SectorSpec{sampleSector(), s}}, impl.TrackSpec{Format: impl.TfFm, Gap: 2, Sectors: []impl.SectorSpec{s, sampleSector()}})
	}
	many := slices.Repeat([]impl.SectorSpec{sampleSector()}, impl.MaxSectors+1)
	for _, format := range formats() {
		list = append(list, impl.TrackSpec{Format: format, Gap: 1, Sectors: many})
	}
	return append(list, impl.TrackSpec{})
}

func TestP9ExamplesOfTheDocument(t *testing.T) {
	cells, c := impl.BuildTrack(impl.TrackSpec{Format: impl.TfFm, Gap: 1})
	is(t, "no sectors", []any{cells, c}, []any{"1111111111111111", int64(impl.OK)})
	order, ok := impl.Interleave(5, 2)
	is(t, "order", []any{order, ok}, []any{[]int64{0, 3, 1, 4, 2}, true})
	is(t, "constants", []int64{impl.MaxSectors, impl.MaxGap, impl.MaxSize}, []int64{8, 20, 2})
}

func TestP9ValidSectors(t *testing.T) {
	for size := range int64(3) {
		for _, n := range []int64{0, 1, 254, 255} {
			s := impl.SectorSpec{Cylinder: n, Head: 255 - n, Number: n, Size: size, Data: strings.Repeat("\xff", []int{8, 16, 32}[size])}
			is(t, "valid sector", impl.ValidSectorSpec(s), true)
			s.Deleted, s.BadId, s.BadData = true, true, true
			is(t, "valid sector with faults", impl.ValidSectorSpec(s), true)
		}
	}
	for i, s := range invalidSectors() {
		is(t, "no valid sector "+strconv.Itoa(i), impl.ValidSectorSpec(s), false)
	}
}

func TestP9ValidTracks(t *testing.T) {
	from := source(90)
	for _, format := range formats() {
		for _, gap := range []int64{1, 2, 19, 20} {
			for count := range 9 {
				is(t, "valid track", impl.ValidTrackSpec(from.sized(format, gap, slices.Repeat([]int64{2}, count)...)), true)
			}
		}
	}
	same := impl.TrackSpec{Format: impl.TfFm, Gap: 3, Sectors: slices.Repeat([]impl.SectorSpec{sampleSector()}, impl.MaxSectors)}
	is(t, "sectors that are alike", impl.ValidTrackSpec(same), true)
	for i, spec := range invalidTracks() {
		is(t, "no valid track "+strconv.Itoa(i), impl.ValidTrackSpec(spec), false)
	}
}

func TestP9SameTracks(t *testing.T) {
	a := sampleTrack()
	is(t, "same", impl.SameTrackSpec(a, sampleTrack()), true)
	others := []impl.TrackSpec{{Format: a.Format, Gap: a.Gap}, {Format: a.Format, Gap: a.Gap, Sectors: a.Sectors[:1]}, {Format: a.Format, Gap: a.Gap, Sectors: append(slices.Clone(a.Sectors), sampleSector())}, {Format: a.Format, Gap: a.Gap, Sectors: []impl.SectorSpec{a.Sectors[1], a.Sectors[0]}}, {Format: a.Format + 1, Gap: a.Gap, Sectors: a.Sectors}, {Format: a.Format, Gap: a.Gap + 1, Sectors: a.Sectors}, {}}
	for i := range a.Sectors {
		for _, s := range changedSectors(a.Sectors[i]) {
			other := sampleTrack()
			other.Sectors[i] = s
			others = append(others, other)
		}
	}
	for i, b := range others {
		is(t, "other tracks "+strconv.Itoa(i), []bool{impl.SameTrackSpec(a, b), impl.SameTrackSpec(b, a), impl.SameTrackSpec(b, b)}, []bool{false, false, true})
	}
	for i, b := range invalidTracks() {
		again := b
		again.Sectors = slices.Clone(b.Sectors)
		is(t, "invalid tracks "+strconv.Itoa(i), impl.SameTrackSpec(b, again), true)
	}
	is(t, "no sectors", impl.SameTrackSpec(impl.TrackSpec{Gap: 1}, impl.TrackSpec{Gap: 1, Sectors: []impl.SectorSpec{}}), true)
}

func TestP9EncodeBytes(t *testing.T) {
	from := source(91)
	for _, format := range formats() {
		most := map[int64]int{impl.TfFm: 500, impl.TfMfm: 500, impl.TfGcr: 800}[format]
		for _, count := range []int{0, 1, 2, 40, most - 1, most} {
			s := from.bytes(count)
			for _, last := range []bool{false, true} {
				want := plainTrack{format: format, last: last}
				if count > 0 {
					want.bytes(s)
				}
				cells, ok := impl.EncodeBytes(format, s, last)
				is(t, "cells of bytes", []any{cells == want.cells, ok}, []any{true, true})
			}
		}
		for _, count := range []int{most + 1, most + 2, impl.MaxBytes, impl.MaxCells, 1 << 17} {
			cells, ok := impl.EncodeBytes(format, strings.Repeat("\x00", count), count%2 == 0)
			is(t, "cells of too many bytes", []any{cells, ok}, []any{"", false})
		}
	}
	for _, format := range noChoice() {
		for _, s := range []string{"", "a", strings.Repeat("a", impl.MaxCells)} {
			cells, ok := impl.EncodeBytes(format, s, true)
			is(t, "cells of no format", []any{cells, ok}, []any{"", false})
		}
	}
}

func TestP9LastOnlyMattersForMfm(t *testing.T) {
	for _, format := range formats() {
		for b := range 256 {
			s := string([]byte{byte(b), 7})
			after0, _ := impl.EncodeBytes(format, s, false)
			after1, _ := impl.EncodeBytes(format, s, true)
			is(t, "same cells", after0 == after1, format != impl.TfMfm || b >= 128)
			is(t, "other cells", after0[1:] == after1[1:], true)
		}
	}
}

func TestP9Fields(t *testing.T) {
	from := source(92)
	for _, format := range formats() {
		for i := range 60 {
			s := from.sector(int64(i % 3))
			id, isId := impl.IdField(format, s)
			data, isData := impl.DataField(format, s)
			is(t, "fields", []any{id, isId, data, isData}, []any{plainId(format, s), true, plainData(format, s), true})
		}
	}
	id, _ := impl.IdField(impl.TfMfm, impl.SectorSpec{Cylinder: 1, Number: 1, Size: 2, Data: strings.Repeat("\xe5", 32)})
	is(t, "id field", id, "\x01\x00\x01\x02"+impl.PutWord(impl.Crc16("\xa1\xa1\xa1\xfe\x01\x00\x01\x02", impl.CrcStart)))
}

// Each of the three flags has an effect on one thing only, and all three on different ones.
func TestP9FaultsOfFields(t *testing.T) {
	for _, format := range formats() {
		plain := sampleSector()
		id, _ := impl.IdField(format, plain)
		data, _ := impl.DataField(format, plain)
		opposite := func(field string) string {
			sum, _ := impl.GetWord(field, int64(len(field)-2))
			return field[:len(field)-2] + impl.PutWord(65535-sum)
		}
		for flags := range 8 {
			s := plain
			s.BadId, s.BadData, s.Deleted = flags&1 > 0, flags&2 > 0, flags&4 > 0
			wantId, wantData := id, data
			if s.Deleted {
				wantData = plainField(format, impl.MkDeleted, s.Data, false)
			}
			if s.BadId {
				wantId = opposite(wantId)
			}
			if s.BadData {
				wantData = opposite(wantData)
			}
			gotId, _ := impl.IdField(format, s)
			gotData, _ := impl.DataField(format, s)
			is(t, "fields with the flags "+strconv.Itoa(flags), []string{gotId, gotData}, []string{wantId, wantData})
			isBuilt(t, "track with the flags "+strconv.Itoa(flags), impl.TrackSpec{Format: format, Gap: 3, Sectors: []impl.SectorSpec{plain, s, plain}})
		}
	}
}

func TestP9NoFields(t *testing.T) {
	none := func(format int64, s impl.SectorSpec) {
		t.Helper()
		id, isId := impl.IdField(format, s)
		data, isData := impl.DataField(format, s)
		is(t, "no fields", []any{id, isId, data, isData}, []any{"", false, "", false})
	}
	for _, s := range invalidSectors() {
		for _, format := range append(formats(), 0, 4) {
			none(format, s)
		}
	}
	for _, format := range noChoice() {
		none(format, sampleSector())
	}
}

func TestP9SectorCells(t *testing.T) {
	for i, row := range [][]int64{{384, 512, 768}, {512, 640, 896}, {240, 320, 480}} {
		for size, want := range row {
			is(t, "cells of a sector", []int64{impl.SectorCells(formats()[i], int64(size)), plainSize(formats()[i], int64(size))}, []int64{want, want})
		}
		for _, size := range []int64{-1, 3, 4, 60, 63, 64, -64, 1 << 32, math.MinInt64, math.MaxInt64} {
			is(t, "no size", impl.SectorCells(formats()[i], size), int64(0))
		}
	}
	for _, format := range noChoice() {
		for size := range int64(3) {
			is(t, "no format", impl.SectorCells(format, size), int64(0))
		}
	}
}

func TestP9TrackCells(t *testing.T) {
	from := source(93)
	for _, format := range formats() {
		byteCells := int64(16)
		if format == impl.TfGcr {
			byteCells = 10
		}
		for range 60 {
			spec := from.track(format, from.below(9))
			want := byteCells * spec.Gap * int64(len(spec.Sectors)+1)
			for _, s := range spec.Sectors {
				want += plainSize(format, s.Size)
			}
			is(t, "cells of a track", impl.TrackCells(spec), want)
		}
	}
	for i, spec := range invalidTracks() {
		is(t, "cells of no track "+strconv.Itoa(i), impl.TrackCells(spec), int64(0))
	}
}

func TestP9TracksWithoutSectors(t *testing.T) {
	filler := map[int64]string{impl.TfFm: "1111111111111111", impl.TfMfm: "1001001001010100", impl.TfGcr: "0111101111"}
	for _, format := range formats() {
		for gap := range int64(20) {
			cells := isBuilt(t, "no sectors", impl.TrackSpec{Format: format, Gap: gap + 1})
			is(t, "fillers", cells, strings.Repeat(filler[format], int(gap+1)))
			empty, _ := impl.BuildTrack(impl.TrackSpec{Format: format, Gap: gap + 1, Sectors: []impl.SectorSpec{}})
			is(t, "an empty list", empty, cells)
		}
	}
	all := isBuilt(t, "cells 1 only", impl.TrackSpec{Format: impl.TfFm, Gap: 20})
	is(t, "one sync", impl.SyncRuns(all), []impl.CellRun{{At: 0, Count: 320}})
	marksAre(t, "and no mark", all, impl.TfGcr, nil)
}

func TestP9TracksHaveTheirParts(t *testing.T) {
	from := source(94)
	for _, format := range formats() {
		for count := range int64(9) {
			for range 12 {
				spec := from.track(format, count)
				if impl.TrackCells(spec) <= impl.MaxCells {
					isBuilt(t, "track", spec)
				}
			}
		}
		for _, sizes := range [][]int64{{0}, {1}, {2}, {0, 1, 2}, {2, 2}} {
			for _, gap := range []int64{1, 20} {
				isBuilt(t, "sizes", from.sized(format, gap, sizes...))
			}
		}
	}
}

// Bytes that look like marks, like syncs or like what comes before them are no marks.
func TestP9MarksAreThoseOfTheParts(t *testing.T) {
	from := source(95)
	data := []string{"\xa1\xa1\xa1\xfe\xa1\xa1\xa1\xfb", "\x00\x00\x00\xa1\xa1\xa1\xf8\x00", "\xfe\xfb\xf8\xfe\xfb\xf8\xc7\xfe", "\xc7\xc7\xc7\xc7\xc7\xc7\xc7\xc7", "\xff\xff\xff\xff\xff\xff\xff\xff", "\x00\x00\x00\x00\x00\x00\x00\x00", "\x00\x08\x00\x07\x00\x06\x08\x07", "\x5d\x5d\x5e\xee\x5f\xf5\xe5\x5d", "\x14\x14\x14\x14\x14\x14\x14\x14", "\xc2\xc2\xc2\xfe\x44\x89\x44\x89", "\x1f\xe1\xfe\x1f\xe1\xfe\x1f\xe1", "\xf5\x7e\xf5\x6f\xf5\x6a\x55\x54"}
	for _, format := range formats() {
		for _, s := range data {
			for _, n := range []int64{0, 1, 0xa1, 0xc7, 0xfe, 0xff} {
				spec := from.sized(format, 1, 0, 0, 0)
				for i := range spec.Sectors {
					spec.Sectors[i].Data, spec.Sectors[i].Cylinder, spec.Sectors[i].Head, spec.Sectors[i].Number = s, n, n, n
				}
				isBuilt(t, "track with "+strconv.QuoteToASCII(s), spec)
			}
		}
	}
}

// built returns the cells of a track.
func built(t *testing.T, spec impl.TrackSpec) string {
	t.Helper()
	cells, c := impl.BuildTrack(spec)
	code(t, "built", c, impl.OK)
	return cells
}

// All clocks are as the encoding says, but for those of the marks. This holds around the beginning, too.
func TestP9ClocksOfTracks(t *testing.T) {
	from := source(96)
	for range 40 {
		spec := from.track(impl.TfMfm, from.below(6))
		cells := built(t, spec)
		want := []int64{}
		for _, m := range plainBuilt(spec).marks {
			want = append(want, m.At+10, m.At+26, m.At+42)
		}
		got := impl.ClockFaults(cells, cells[len(cells)-1] == '1', true)
		is(t, "clock faults of MFM", slices.Equal(got, want), true)
		runs := impl.RunsOf(cells + cells[:16])
		is(t, "runs of MFM", []bool{slices.Min(runs) >= 2, slices.Max(runs) <= 4}, []bool{true, true})
		spec.Format = impl.TfFm
		cells, want = built(t, spec), want[:0]
		for _, m := range plainBuilt(spec).marks {
			want = append(want, m.At+4, m.At+6, m.At+8)
		}
		is(t, "clock faults of FM", slices.Equal(impl.ClockFaults(cells, false, false), want), true)
	}
}

// field returns the bytes that are read in the cells behind a mark.
func field(t *testing.T, cells string, format int64, m impl.Mark, count int) string {
	t.Helper()
	decode, byteCells := impl.DecodeFm, 16
	switch format {
	case impl.TfMfm:
		decode = impl.DecodeMfm
	case impl.TfGcr:
		decode, byteCells = impl.DecodeGcr, 10
	}
	part, ok := impl.SliceCells(cells, m.Body, int64(byteCells*count))
	is(t, "cells of a field", ok, true)
	s, ok := decode(part)
	is(t, "bytes of a field", ok, true)
	return s
}

func TestP9FieldsOfTracks(t *testing.T) {
	from := source(97)
	for _, format := range formats() {
		for range 20 {
			spec := from.track(format, 1+from.below(6))
			straight := built(t, spec)
			by := int(from.below(int64(len(straight))))
			cells := turned(straight, by)
			list, _ := impl.FindMarks(straight, format)
			is(t, "number of marks", len(list), 2*len(spec.Sectors))
			for i, s := range spec.Sectors {
				id, data := list[2*i], list[2*i+1]
				id.Body, data.Body = earlier(id.Body, by, len(cells)), earlier(data.Body, by, len(cells))
				is(t, "kinds of the marks", []int64{id.Kind, data.Kind}, []int64{impl.MkId, plainKind(s)})
				is(t, "id field", field(t, cells, format, id, 6), plainId(format, s))
				is(t, "data field", field(t, cells, format, data, len(s.Data)+2), plainData(format, s))
			}
		}
	}
}

// Wherever a track begins, its marks are the same (promise 8 for tracks that are built).
func TestP8TurnedTracksThatAreBuilt(t *testing.T) {
	from := source(98)
	for _, format := range formats() {
		spec := from.sized(format, 2, 0, 1)
		cells, list := built(t, spec), plainBuilt(spec).marks
		for by := range cells {
			later := []impl.Mark{}
			for _, m := range list {
				later = append(later, impl.Mark{Kind: m.Kind, At: earlier(m.At, by, len(cells)), Body: earlier(m.Body, by, len(cells))})
			}
			slices.SortFunc(later, func(a, b impl.Mark) int { return int(a.At - b.At) })
			marksAre(t, "track turned by "+strconv.Itoa(by), turned(cells, by), format, later)
		}
	}
}

func TestP9MaxCells(t *testing.T) {
	from := source(100)
	for _, spec := range []impl.TrackSpec{from.sized(impl.TfFm, 20, 0, 0, 1, 2, 2, 2, 2, 2), from.sized(impl.TfMfm, 20, 0, 0, 0, 0, 1, 1, 2, 2), from.sized(impl.TfMfm, 12, 0, 1, 1, 2, 2, 2, 2, 2)} {
		is(t, "MaxCells", impl.TrackCells(spec), int64(impl.MaxCells))
		cells := isBuilt(t, "MaxCells", spec)
		is(t, "cells", []any{len(cells), impl.ValidCells(cells)}, []any{8000, true})
	}
	for cells, spec := range map[int64]impl.TrackSpec{
		8016:  from.sized(impl.TfMfm, 13, 0, 0, 1, 2, 2, 2, 2, 2),
		8032:  from.sized(impl.TfMfm, 6, 2, 2, 2, 2, 2, 2, 2, 2),
		9024:  from.sized(impl.TfFm, 20, 2, 2, 2, 2, 2, 2, 2, 2),
		10048: from.sized(impl.TfMfm, 20, 2, 2, 2, 2, 2, 2, 2, 2),
	} {
		is(t, "more cells", impl.TrackCells(spec), cells)
		got, c := impl.BuildTrack(spec)
		is(t, "too many cells", []any{got, c}, []any{"", int64(impl.ErrFull)})
		spec.Sectors[7].Data += "x"
		got, c = impl.BuildTrack(spec)
		is(t, "invalid first", []any{got, c}, []any{"", int64(impl.ErrInvalid)})
	}
	most := from.sized(impl.TfGcr, 20, 2, 2, 2, 2, 2, 2, 2, 2)
	is(t, "the longest track of TfGcr", len(isBuilt(t, "longest", most)), 8*480+9*200)
}

func TestP9NoTracks(t *testing.T) {
	for i, spec := range invalidTracks() {
		cells, c := impl.BuildTrack(spec)
		is(t, "no track "+strconv.Itoa(i), []any{cells, c}, []any{"", int64(impl.ErrInvalid)})
	}
}

// plainOrder tries each place behind the one before, as the document says.
func plainOrder(sectors, step int64) []int64 {
	order := slices.Repeat([]int64{-1}, int(sectors))
	order[0] = 0
	for sector, place := int64(1), int64(0); sector < sectors; sector++ {
		for place += step; order[place%sectors] >= 0; place++ {
		}
		order[place%sectors] = sector
	}
	return order
}

func TestP9Interleave(t *testing.T) {
	for sectors := int64(1); sectors <= 8; sectors++ {
		for step := int64(1); step <= 8; step++ {
			order, ok := impl.Interleave(sectors, step)
			is(t, "order", []any{order, ok}, []any{plainOrder(sectors, step), true})
			is(t, "each sector once", slices.Sorted(slices.Values(order)), upTo(int(sectors)))
		}
	}
	for _, r := range [][]int64{{1, 1, 0}, {1, 8, 0}, {4, 2, 0, 2, 1, 3}, {6, 3, 0, 2, 4, 1, 3, 5}, {8, 8, 0, 1, 2, 3, 4, 5, 6, 7}, {8, 1, 0, 1, 2, 3, 4, 5, 6, 7}, {3, 2, 0, 2, 1}, {8, 7, 0, 7, 6, 5, 4, 3, 2, 1}, {2, 5, 0, 1}} {
		order, _ := impl.Interleave(r[0], r[1])
		is(t, "written out", order, r[2:])
	}
	for _, n := range []int64{0, -1, 9, 10, 1 << 32, math.MinInt64, math.MaxInt64} {
		for _, pair := range [][]int64{{n, 1}, {1, n}, {8, n}, {n, 8}, {n, n}} {
			order, ok := impl.Interleave(pair[0], pair[1])
			is(t, "no order", []any{order == nil, ok}, []any{true, false})
		}
	}
}
