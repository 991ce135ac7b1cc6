package tests

import (
	"math"
	"slices"
	"strconv"
	"strings"
	"testing"

	"loop.example/g00899/impl"
)

// turned returns the cells of the same track that begins by cells later.
func turned(cells string, by int) string { return cells[by:] + cells[:by] }

// earlier returns a place on a track that begins by cells later.
func earlier(place int64, by, total int) int64 {
	return (place - int64(by) + 2*int64(total)) % int64(total)
}

// plainPattern tries each place, cell by cell.
func plainPattern(cells, pattern string) []int64 {
	var list []int64
	for at := range cells {
		same := len(pattern) <= len(cells)
		for i := 0; same && i < len(pattern); i++ {
			same = cells[(at+i)%len(cells)] == pattern[i]
		}
		if same {
			list = append(list, int64(at))
		}
	}
	return list
}

// plainSyncs counts the cells from each beginning of a sequence on.
func plainSyncs(cells string) []impl.CellRun {
	total := len(cells)
	if !strings.Contains(cells, "0") {
		if total < 10 {
			return nil
		}
		return []impl.CellRun{{At: 0, Count: int64(total)}}
	}
	var list []impl.CellRun
	for at := range total {
		count := 0
		for cells[(at+total-1)%total] == '0' && cells[(at+count)%total] == '1' {
			count++
		}
		if count >= 10 {
			list = append(list, impl.CellRun{At: int64(at), Count: int64(count)})
		}
	}
	return list
}

func formats() []int64 { return []int64{impl.TfFm, impl.TfMfm, impl.TfGcr} }

func kinds() []int64 { return []int64{impl.MkId, impl.MkData, impl.MkDeleted} }

// noChoice are numbers of no format and of no kind of marks.
func noChoice() []int64 {
	return []int64{0, 4, -1, 5, 255, 1 << 32, 1<<32 + 1, math.MinInt64, math.MinInt64 + 1, math.MaxInt64}
}

// markLiteral returns the cells of a mark, which are written out here.
func markLiteral(format, kind int64) string {
	const mfm = "010001001000100101000100100010010100010010001001"
	return [...][4]string{
		impl.TfFm:  {"", "1111010101111110", "1111010101101111", "1111010101101010"},
		impl.TfMfm: {"", mfm + "0101010101010100", mfm + "0101010101000101", mfm + "0101010101001010"},
		impl.TfGcr: {"", "11111111110101001001", "11111111110101010111", "11111111110101010110"},
	}[format][kind]
}

// plainMarks follows the words of the document with the cells that are written out here.
func plainMarks(cells string, format int64) []impl.Mark {
	var list []impl.Mark
	total := int64(len(cells))
	for _, kind := range kinds() {
		literal := markLiteral(format, kind)
		if format != impl.TfGcr {
			for _, at := range plainPattern(cells, literal) {
				list = append(list, impl.Mark{Kind: kind, At: at, Body: (at + int64(len(literal))) % total})
			}
			continue
		}
		for _, run := range plainSyncs(cells) {
			end := (run.At + run.Count) % total
			if slices.Contains(plainPattern(cells, literal[10:]), end) {
				list = append(list, impl.Mark{Kind: kind, At: run.At, Body: (end + 10) % total})
			}
		}
	}
	slices.SortFunc(list, func(a, b impl.Mark) int { return int(a.At - b.At) })
	return list
}

// marksAre requires marks and OK.
func marksAre(t *testing.T, what, cells string, format int64, want []impl.Mark) {
	t.Helper()
	got, c := impl.FindMarks(cells, format)
	code(t, what, c, impl.OK)
	if !slices.Equal(got, want) {
		t.Errorf("%s: got marks %v, want %v", what, got, want)
	}
	is(t, what+" are valid", impl.ValidMarks(got, int64(len(cells))), true)
}

// noMarks requires an error and no marks.
func noMarks(t *testing.T, what, cells string, format, want int64) {
	t.Helper()
	got, c := impl.FindMarks(cells, format)
	code(t, what, c, want)
	is(t, what, len(got), 0)
}

// between are cells that meet marks of a format without being a part of one.
func between(format int64) string {
	if format == impl.TfMfm {
		return "10101010"
	}
	return "010110"
}

// marked returns cells with marks of a format, between which there are others.
func marked(format int64, list ...int64) string {
	cells := between(format)
	for _, kind := range list {
		cells += markLiteral(format, kind) + between(format)
	}
	return cells
}

func TestP8ExamplesOfTheDocument(t *testing.T) {
	is(t, "pattern", impl.FindPattern("10110", "01"), []int64{1, 4})
	is(t, "cells between", impl.CellsBetween(100, 90, 10), int64(20))
	is(t, "constants", []int64{impl.TfFm, impl.TfMfm, impl.TfGcr, impl.MkId, impl.MkData, impl.MkDeleted, impl.MinSync, impl.MaxMarks}, []int64{1, 2, 3, 1, 2, 3, 10, 64})
}

func TestP8SliceCells(t *testing.T) {
	from := source(80)
	for _, cells := range []string{"0", "1", "01", "10110", "0110100", from.cells(40, 2)} {
		for at := range cells {
			for n := range len(cells) + 1 {
				got, ok := impl.SliceCells(cells, int64(at), int64(n))
				is(t, "slice", []any{got, ok}, []any{turned(cells, at)[:n], true})
			}
		}
	}
	long := from.cells(impl.MaxCells, 2)
	for _, at := range []int{0, 1, 4000, impl.MaxCells - 1} {
		for _, n := range []int{0, 1, 4001, impl.MaxCells - 1, impl.MaxCells} {
			got, ok := impl.SliceCells(long, int64(at), int64(n))
			is(t, "slice of many cells", []any{got == turned(long, at)[:n], ok}, []any{true, true})
		}
	}
}

func TestP8NoSlices(t *testing.T) {
	for _, r := range []struct {
		cells string
		at, n int64
	}{
		{"10110", 5, 0}, {"10110", 5, 1}, {"10110", 6, 1}, {"10110", -1, 1}, {"10110", -5, 1}, {"10110", 0, 6}, {"10110", 4, 6}, {"10110", 0, -1}, {"10110", 3, -3},
		{"1", 1, 0}, {"1", 1, 1}, {"1", 0, 2}, {"10110", math.MaxInt64, 1}, {"10110", math.MinInt64, 1}, {"10110", 1, math.MaxInt64}, {"10110", 1, math.MinInt64}, {"10110", 4, math.MaxInt64 - 3}, {"10110", math.MaxInt64, math.MaxInt64},
		{strings.Repeat("1", impl.MaxCells), impl.MaxCells, 0}, {strings.Repeat("1", impl.MaxCells), 0, impl.MaxCells + 1}, {strings.Repeat("1", impl.MaxCells+1), 0, 1},
	} {
		got, ok := impl.SliceCells(r.cells, r.at, r.n)
		is(t, "no slice "+brief(r.cells), []any{got, ok}, []any{"", false})
	}
	for _, cells := range append(noCells(), "") {
		for _, n := range []int64{0, 1} {
			got, ok := impl.SliceCells(cells, 0, n)
			is(t, "slice of no cells", []any{got, ok}, []any{"", false})
		}
	}
}

func TestP8FindPattern(t *testing.T) {
	from := source(81)
	for range 600 {
		cells := from.cells(int(1+from.below(30)), 2)
		pattern := from.cells(int(1+from.below(8)), 2)
		if from.below(3) == 0 {
			// One that is there, and as often as not across the beginning.
			pattern = turned(cells, int(from.below(int64(len(cells)))))[:1+from.below(int64(len(cells)))]
		}
		if got, want := impl.FindPattern(cells, pattern), plainPattern(cells, pattern); !slices.Equal(got, want) {
			t.Errorf("%s in %s: got %v, want %v", pattern, cells, got, want)
		}
	}
	for _, r := range []struct {
		cells, pattern string
		want           []int64
	}{
		{"1", "1", []int64{0}}, {"1", "0", nil}, {"0", "0", []int64{0}}, {"10", "01", []int64{1}}, {"10", "10", []int64{0}},
		{"10110", "10110", []int64{0}}, {"10110", "01011", []int64{4}}, {"10110", "11111", nil}, {"1010", "1010", []int64{0, 2}}, {"1111", "1111", []int64{0, 1, 2, 3}},
		{"10110", "101101", nil}, {"11111", "111111", nil}, {"1", "11", nil}, {"10", "101", nil},
		{"1000", "1", []int64{0}}, {"0001", "1", []int64{3}}, {"1001", "11", []int64{3}}, {"11100", "11", []int64{0, 1}}, {"0000", "00", []int64{0, 1, 2, 3}},
	} {
		if got := impl.FindPattern(r.cells, r.pattern); !slices.Equal(got, r.want) {
			t.Errorf("%s in %s: got %v, want %v", r.pattern, r.cells, got, r.want)
		}
	}
}

func TestP8LongPatterns(t *testing.T) {
	all := strings.Repeat("1", impl.MaxCells)
	for _, n := range []int{1, 20, impl.MaxCells - 1, impl.MaxCells} {
		is(t, "everywhere", slices.Equal(impl.FindPattern(all, all[:n]), upTo(impl.MaxCells)), true)
	}
	from := source(82)
	cells := from.cells(impl.MaxCells, 2)
	for _, at := range []int{0, 1, 5000, impl.MaxCells - 1} {
		for _, n := range []int{50, 4000, impl.MaxCells} {
			is(t, "somewhere", impl.FindPattern(cells, turned(cells, at)[:n]), []int64{int64(at)})
		}
	}
	one := all[:impl.MaxCells-1] + "0"
	is(t, "at one place", impl.FindPattern(one, turned(one, 17)), []int64{17})
}

func TestP8NoPatterns(t *testing.T) {
	for _, no := range append(noCells(), "", "2", " ", "1 1", "0\x00", "\u00e9", strings.Repeat("1", impl.MaxCells+1)) {
		is(t, "pattern of no cells", impl.FindPattern(strings.Repeat("10", 20), no) == nil, true)
		is(t, "pattern in no cells", impl.FindPattern(no, "1") == nil, true)
		is(t, "pattern in itself", impl.FindPattern(no, no) == nil, true)
	}
	is(t, "longer pattern", impl.FindPattern("1111", "11111") == nil, true)
}

// syncsAre requires syncs.
func syncsAre(t *testing.T, cells string, want []impl.CellRun) {
	t.Helper()
	if got := impl.SyncRuns(cells); !slices.Equal(got, want) {
		t.Errorf("syncs of %.60s: got %v, want %v", cells, got, want)
	}
}

func TestP8SyncRuns(t *testing.T) {
	ten := strings.Repeat("1", 10)
	for _, r := range []struct {
		cells string
		want  []impl.CellRun
	}{
		{"1", nil}, {"0", nil}, {ten[1:], nil}, {ten, []impl.CellRun{{At: 0, Count: 10}}}, {ten + "1", []impl.CellRun{{At: 0, Count: 11}}},
		{"0" + ten[1:], nil}, {ten[1:] + "0", nil}, {ten[5:] + "0" + ten[6:], nil},
		{"0" + ten, []impl.CellRun{{At: 1, Count: 10}}}, {ten + "0", []impl.CellRun{{At: 0, Count: 10}}}, {ten[5:] + "0" + ten[5:], []impl.CellRun{{At: 6, Count: 10}}}, {"1" + "0" + ten[1:], []impl.CellRun{{At: 2, Count: 10}}}, {ten[1:] + "01", []impl.CellRun{{At: 10, Count: 10}}},
		{ten + "0" + ten + "0", []impl.CellRun{{At: 0, Count: 10}, {At: 11, Count: 10}}}, {ten + "0" + ten[1:] + "0", []impl.CellRun{{At: 0, Count: 10}}},
		{ten + "0" + ten + "00" + ten[7:], []impl.CellRun{{At: 11, Count: 10}, {At: 23, Count: 13}}},
		{strings.Repeat("1", impl.MaxCells), []impl.CellRun{{At: 0, Count: impl.MaxCells}}},
		{strings.Repeat("1", impl.MaxCells-1) + "0", []impl.CellRun{{At: 0, Count: impl.MaxCells - 1}}},
		{strings.Repeat("1", 5000) + "0" + strings.Repeat("1", 2999), []impl.CellRun{{At: 5001, Count: 7999}}},
		{strings.Repeat("0", impl.MaxCells), nil},
	} {
		syncsAre(t, r.cells, r.want)
	}
	from := source(83)
	for range 400 {
		cells := ""
		for range 1 + from.below(6) {
			cells += strings.Repeat("1", int(from.below(14))) + strings.Repeat("0", int(from.below(3)))
		}
		if cells != "" {
			syncsAre(t, cells, plainSyncs(cells))
		}
	}
	for _, cells := range append(noCells(), "", ten+"2", ten+" ", "\xff"+ten, ten+"\u00e9", ten+"0\x00", strings.Repeat("1", impl.MaxCells+1), strings.Repeat("2", 20)) {
		is(t, "syncs of no cells", impl.SyncRuns(cells) == nil, true)
	}
}

func TestP8MarkBytes(t *testing.T) {
	for i, row := range [][]int64{{254, 251, 248}, {254, 251, 248}, {8, 7, 6}} {
		for j, b := range row {
			is(t, "byte of a mark", impl.MarkByte(formats()[i], kinds()[j]), b)
		}
	}
	for _, format := range append(formats(), noChoice()...) {
		for _, kind := range append(kinds(), noChoice()...) {
			if slices.Contains(formats(), format) && slices.Contains(kinds(), kind) {
				continue
			}
			cells, ok := impl.MarkCells(format, kind)
			is(t, "no mark", []any{impl.MarkByte(format, kind), cells, ok}, []any{int64(0), "", false})
		}
	}
}

func TestP8MarkCells(t *testing.T) {
	for _, format := range formats() {
		for _, kind := range kinds() {
			cells, ok := impl.MarkCells(format, kind)
			is(t, "cells of a mark", []any{cells, ok}, []any{markLiteral(format, kind), true})
		}
	}
	for i, kind := range kinds() {
		fm, _ := impl.MarkCells(impl.TfFm, kind)
		b, ok := impl.FmMarkOf(fm)
		is(t, "byte of the FM mark", []any{b, ok}, []any{[]int64{254, 251, 248}[i], true})
		mfm, _ := impl.MarkCells(impl.TfMfm, kind)
		s, ok := impl.DecodeMfm(mfm)
		is(t, "bytes of the MFM mark", []any{s, ok}, []any{"\xa1\xa1\xa1" + []string{"\xfe", "\xfb", "\xf8"}[i], true})
		is(t, "its clocks", impl.ClockFaults(mfm, false, true), []int64{10, 26, 42})
		gcr, _ := impl.MarkCells(impl.TfGcr, kind)
		s, ok = impl.DecodeGcr(gcr[10:])
		is(t, "byte of the GCR mark", []any{s, ok}, []any{[]string{"\x08", "\x07", "\x06"}[i], true})
	}
}

// Each two bytes meet, which is as far as the cells of FM and of the sync reach; those of MFM contain MfmMark.
func TestP8MarksAreNotInBytes(t *testing.T) {
	fm, gcr := map[string]bool{}, false
	for pair := range int64(65536) {
		s := impl.PutWord(pair)
		cells := impl.EncodeFm(s)
		for at := range 17 {
			fm[cells[at:at+16]] = true
		}
		groups, _ := impl.EncodeGcr(s)
		gcr = gcr || strings.Contains(groups, strings.Repeat("1", 10))
	}
	for _, kind := range kinds() {
		is(t, "mark in FM", fm[markLiteral(impl.TfFm, kind)], false)
	}
	is(t, "sync in the group code", gcr, false)
}

func TestP8MarksOfEachKind(t *testing.T) {
	for _, format := range formats() {
		for _, kind := range kinds() {
			cells, literal := between(format)+markLiteral(format, kind)+between(format), markLiteral(format, kind)
			for by := range cells {
				track := turned(cells, by)
				at := int64(len(between(format)))
				want := impl.Mark{Kind: kind, At: earlier(at, by, len(cells)), Body: earlier(at+int64(len(literal)), by, len(cells))}
				marksAre(t, "mark turned by "+strconv.Itoa(by), track, format, []impl.Mark{want})
				for _, other := range formats() {
					if other != format {
						marksAre(t, "mark of another format", track, other, nil)
					}
				}
			}
			for at := range literal {
				wrong := between(format) + otherCells(literal, at) + between(format)
				marksAre(t, "another cell", wrong, format, plainMarks(wrong, format))
				// The last cells may become those of another kind.
				if format == impl.TfGcr && at < 19 || format == impl.TfMfm && at < 48 {
					marksAre(t, "no mark any more", wrong, format, nil)
				}
			}
		}
	}
}

func TestP8MarksOfTurnedTracks(t *testing.T) {
	from := source(84)
	for _, format := range formats() {
		for range 25 {
			cells := ""
			for range 1 + from.below(5) {
				cells += markLiteral(format, 1+from.below(3)) + from.cells(int(from.below(30)), 2) + strings.Repeat("1", int(from.below(16)))
			}
			list := plainMarks(cells, format)
			syncs := plainSyncs(cells)
			for by := range cells {
				later := []impl.Mark{}
				for _, m := range list {
					later = append(later, impl.Mark{Kind: m.Kind, At: earlier(m.At, by, len(cells)), Body: earlier(m.Body, by, len(cells))})
				}
				slices.SortFunc(later, func(a, b impl.Mark) int { return int(a.At - b.At) })
				marksAre(t, "turned by "+strconv.Itoa(by), turned(cells, by), format, later)
				runs := []impl.CellRun{}
				for _, r := range syncs {
					runs = append(runs, impl.CellRun{At: earlier(r.At, by, len(cells)), Count: r.Count})
				}
				slices.SortFunc(runs, func(a, b impl.CellRun) int { return int(a.At - b.At) })
				syncsAre(t, turned(cells, by), runs)
			}
		}
	}
}

func TestP8MarksAtTheEnds(t *testing.T) {
	for _, format := range formats() {
		cells := between(format) + markLiteral(format, impl.MkData)
		length, before := int64(len(cells)), int64(len(between(format)))
		marksAre(t, "mark at the end", cells, format, []impl.Mark{{Kind: impl.MkData, At: before, Body: 0}})
		marksAre(t, "mark at the beginning", turned(cells, int(before)), format, []impl.Mark{{Kind: impl.MkData, At: 0, Body: length - before}})
		marksAre(t, "mark from the last cell on", turned(cells, int(before)+1), format, []impl.Mark{{Kind: impl.MkData, At: length - 1, Body: length - before - 1}})
		marksAre(t, "field at the last cell", turned(cells, 1), format, []impl.Mark{{Kind: impl.MkData, At: before - 1, Body: length - 1}})
	}
	for _, format := range []int64{impl.TfFm, impl.TfMfm} {
		for _, kind := range kinds() {
			literal := markLiteral(format, kind)
			for by := range literal {
				at := earlier(0, by, len(literal))
				marksAre(t, "nothing but a mark", turned(literal, by), format, []impl.Mark{{Kind: kind, At: at, Body: at}})
			}
			for n := 1; n < len(literal); n++ {
				marksAre(t, "fewer cells than a mark", literal[:n], format, nil)
				marksAre(t, "its last cells", literal[n:], format, nil)
			}
		}
	}
}

func TestP8MarksOfTheGroupCode(t *testing.T) {
	byteOf := func(kind int64) string { return markLiteral(impl.TfGcr, kind)[10:] }
	for _, count := range []int{10, 11, 15, 100, 7000} {
		marksAre(t, "a longer sync", "00"+strings.Repeat("1", count)+byteOf(impl.MkId)+"0", impl.TfGcr, []impl.Mark{{Kind: impl.MkId, At: 2, Body: int64(count+12) % int64(count+13)}})
	}
	for _, count := range []int{0, 1, 9} {
		marksAre(t, "a shorter sync", "00"+strings.Repeat("1", count)+byteOf(impl.MkId)+"0", impl.TfGcr, nil)
	}
	sync := strings.Repeat("1", 12)
	for _, cells := range []string{"0" + sync, "0" + sync + "0" + byteOf(impl.MkId), "0" + sync + byteOf(impl.MkId)[:9] + "0", byteOf(impl.MkId) + "0" + sync + "00", sync + "0101001010" + sync, sync, strings.Repeat("1", impl.MaxCells)} {
		marksAre(t, "a sync without a mark", cells, impl.TfGcr, nil)
	}
	marksAre(t, "one sync of two", "00"+sync+"00"+sync+byteOf(impl.MkDeleted), impl.TfGcr, []impl.Mark{{Kind: impl.MkDeleted, At: 16, Body: 0}})
	// Behind the last 1 of a mark, the sync of the next one may follow at once.
	marksAre(t, "a mark behind a mark", sync+byteOf(impl.MkData)+sync+byteOf(impl.MkDeleted), impl.TfGcr, []impl.Mark{{Kind: impl.MkData, At: 0, Body: 22}, {Kind: impl.MkDeleted, At: 19, Body: 0}})
}

// The document does not ask that a mark has no more cells than its track: behind a sync, its first cells come again.
func TestP8ASyncThatIsMetByItsMark(t *testing.T) {
	for kind, cells := range map[int64]string{impl.MkId: "11111111110101001001", impl.MkData: "11111111110101010111"} {
		ones := int64(1)
		if kind == impl.MkData {
			ones = 3
		}
		for by := range cells {
			marksAre(t, "nothing but a mark", turned(cells, by), impl.TfGcr, []impl.Mark{{Kind: kind, At: earlier(-ones, by, 20), Body: earlier(0, by, 20)}})
		}
	}
	marksAre(t, "a mark that ends with a 0", "11111111110101010110", impl.TfGcr, []impl.Mark{{Kind: impl.MkDeleted, At: 0, Body: 0}})
	for n := 17; n < 20; n++ {
		cells := "11111111110101010111"[:n]
		marksAre(t, "fewer cells than a mark", cells, impl.TfGcr, plainMarks(cells, impl.TfGcr))
	}
}

func TestP8FewAndManyMarks(t *testing.T) {
	for _, format := range formats() {
		list := []int64{}
		for i := range int64(impl.MaxMarks) {
			list = append(list, 1+i*i%3)
		}
		cells := marked(format, list...)
		each := len(between(format)) + len(markLiteral(format, impl.MkId))
		for _, by := range []int{0, 1, len(between(format)), len(between(format)) + 5, each, len(cells) - 1} {
			want := []impl.Mark{}
			for i, kind := range list {
				at := int64(len(between(format)) + i*each)
				want = append(want, impl.Mark{Kind: kind, At: earlier(at, by, len(cells)), Body: earlier(at+int64(len(markLiteral(format, kind))), by, len(cells))})
			}
			slices.SortFunc(want, func(a, b impl.Mark) int { return int(a.At - b.At) })
			marksAre(t, "MaxMarks marks", turned(cells, by), format, want)
		}
		more := marked(format, append(list, impl.MkId)...)
		for _, by := range []int{0, 1, len(between(format)) + 5, len(more) - 1, len(more) - len(between(format)) - 3} {
			noMarks(t, "one more", turned(more, by), format, impl.ErrFull)
		}
		noMarks(t, "many more", strings.Repeat(markLiteral(format, impl.MkId), impl.MaxCells/len(markLiteral(format, impl.MkId))), format, impl.ErrFull)
	}
}

func TestP8NoTracks(t *testing.T) {
	full := strings.Repeat(markLiteral(impl.TfFm, impl.MkId), impl.MaxMarks+1)
	for _, format := range noChoice() {
		for _, cells := range []string{"1", full, "", "2"} {
			noMarks(t, "no format", cells, format, impl.ErrInvalid)
		}
	}
	for _, format := range formats() {
		for _, cells := range append(noCells(), "", full+"2", full+" ", full+"\xff", full+"\u00e9", strings.Repeat("1", impl.MaxCells+1), strings.Repeat(markLiteral(format, impl.MkId), 1+impl.MaxCells/len(markLiteral(format, impl.MkId)))) {
			noMarks(t, "no cells", cells, format, impl.ErrInvalid)
		}
		for _, cells := range []string{"0", "1", strings.Repeat("0", impl.MaxCells), strings.Repeat("10", impl.MaxCells/2)} {
			marksAre(t, "no marks", cells, format, nil)
		}
	}
}

// spread returns marks at different places.
func spread(places ...int64) []impl.Mark {
	list := []impl.Mark{}
	for i, at := range places {
		list = append(list, impl.Mark{Kind: int64(1 + i%3), At: at})
	}
	return list
}

func TestP8ValidMarks(t *testing.T) {
	for _, r := range []struct {
		list  []impl.Mark
		total int64
	}{
		{nil, 1}, {nil, impl.MaxCells}, {spread(0), 1}, {spread(0, 1), 2}, {spread(0, 9), 10}, {spread(9), 10}, {spread(0, 1, 2, 3, 7999), impl.MaxCells}, {spread(upTo(impl.MaxMarks)...), impl.MaxMarks},
		{[]impl.Mark{{Kind: impl.MkId, At: 9, Body: 0}}, 10}, {[]impl.Mark{{Kind: impl.MkData, At: 0, Body: 9}}, 10}, {[]impl.Mark{{Kind: impl.MkDeleted, At: 4, Body: 4}, {Kind: impl.MkDeleted, At: 5, Body: 4}}, 10},
	} {
		is(t, "valid marks", impl.ValidMarks(r.list, r.total), true)
	}
	for _, r := range []struct {
		list  []impl.Mark
		total int64
	}{
		{nil, 0}, {nil, -1}, {nil, impl.MaxCells + 1}, {nil, math.MinInt64}, {nil, math.MaxInt64}, {spread(0), 0}, {spread(1), 1}, {spread(10), 10}, {spread(-1), 10}, {spread(0, 0), 10}, {spread(1, 0), 10}, {spread(0, 5, 5), 10}, {spread(0, 5, 4), 10}, {spread(3, 10), 10}, {spread(8000), impl.MaxCells}, {spread(math.MaxInt64), impl.MaxCells}, {spread(math.MinInt64), impl.MaxCells}, {spread(upTo(impl.MaxMarks + 1)...), impl.MaxCells},
		{[]impl.Mark{{Kind: impl.MkId, At: 0, Body: 10}}, 10}, {[]impl.Mark{{Kind: impl.MkId, At: 0, Body: -1}}, 10}, {[]impl.Mark{{Kind: impl.MkId, At: 0, Body: math.MaxInt64}}, 10}, {[]impl.Mark{{Kind: impl.MkId, At: 0, Body: math.MinInt64}}, 10},
		{[]impl.Mark{{Kind: impl.MkId, At: 0}, {Kind: impl.MkId, At: math.MaxInt64}, {Kind: impl.MkId, At: math.MinInt64}}, 10},
	} {
		is(t, "no valid marks "+brief(r.list), impl.ValidMarks(r.list, r.total), false)
	}
	for _, kind := range noChoice() {
		is(t, "no kind", impl.ValidMarks([]impl.Mark{{Kind: kind, At: 1, Body: 2}}, 10), false)
		is(t, "a later one of no kind", impl.ValidMarks([]impl.Mark{{Kind: 1, At: 1, Body: 2}, {Kind: kind, At: 3, Body: 2}}, 10), false)
	}
}

func TestP8NextMark(t *testing.T) {
	list := []impl.Mark{{Kind: 1, At: 0, Body: 3}, {Kind: 2, At: 5, Body: 7999}, {Kind: 3, At: 7998, Body: 0}}
	for at, want := range map[int64]int64{0: 0, 1: 1, 4: 1, 5: 1, 6: 2, 7997: 2, 7998: 2, 7999: 0} {
		next, ok := impl.NextMark(list, at)
		is(t, "next mark from "+strconv.FormatInt(at, 10), []any{next, ok}, []any{want, true})
	}
	for at := range int64(impl.MaxMarks * 3) {
		places := []int64{}
		for _, n := range upTo(impl.MaxMarks) {
			places = append(places, 3*n+1)
		}
		next, ok := impl.NextMark(spread(places...), at)
		is(t, "next of MaxMarks marks", []any{next, ok}, []any{(at + 1) / 3 % impl.MaxMarks, true})
	}
	last, ok := impl.NextMark(spread(impl.MaxCells-1), impl.MaxCells-1)
	is(t, "a mark at the last cell", []any{last, ok}, []any{int64(0), true})
	for _, r := range []struct {
		list []impl.Mark
		at   int64
	}{
		{nil, 0}, {[]impl.Mark{}, 5}, {list, -1}, {list, impl.MaxCells}, {list, math.MinInt64}, {list, math.MaxInt64},
		{spread(5, 5), 0}, {spread(8000), 0}, {spread(-1), 0}, {spread(upTo(impl.MaxMarks + 1)...), 3}, {[]impl.Mark{{Kind: 4, At: 5}}, 0}, {[]impl.Mark{{Kind: 1, At: 5, Body: 8000}}, 0},
	} {
		next, ok := impl.NextMark(r.list, r.at)
		is(t, "no next mark", []any{next, ok}, []any{int64(0), false})
	}
}

func TestP8CellsBetween(t *testing.T) {
	for _, total := range []int64{1, 2, 3, 17} {
		for from := range total {
			for to, steps := from, int64(0); steps < total; to, steps = (to+1)%total, steps+1 {
				is(t, "cells between", impl.CellsBetween(total, from, to), steps)
			}
		}
	}
	is(t, "around a long track", []int64{impl.CellsBetween(impl.MaxCells, 0, 7999), impl.CellsBetween(impl.MaxCells, 7999, 0), impl.CellsBetween(impl.MaxCells, 1, 0)}, []int64{7999, 1, 7999})
	for _, n := range [][]int64{{0, 0, 0}, {-1, 0, 0}, {impl.MaxCells + 1, 0, 1}, {100, 100, 5}, {100, 5, 100}, {100, -1, 5}, {100, 5, -1}, {100, math.MinInt64, 5}, {100, 5, math.MaxInt64}, {math.MaxInt64, 0, 5}, {math.MinInt64, 0, 0}, {100, math.MaxInt64, math.MinInt64}} {
		is(t, "between no places", impl.CellsBetween(n[0], n[1], n[2]), int64(0))
	}
}

// The cells between marks do not depend on the beginning of the track either.
func TestP8DistancesOfTurnedTracks(t *testing.T) {
	cells := marked(impl.TfMfm, impl.MkId, impl.MkData, impl.MkId, impl.MkDeleted)
	for by := range cells {
		list, _ := impl.FindMarks(turned(cells, by), impl.TfMfm)
		total := int64(len(cells))
		for _, m := range list {
			k, ok := impl.NextMark(list, (m.At+1)%total)
			is(t, "mark and next mark", []any{impl.CellsBetween(total, m.At, m.Body), ok}, []any{int64(64), true})
			between := impl.CellsBetween(total, m.Body, list[k].At)
			is(t, "cells to the next mark", between == 8 || between == 16 && m.Kind == impl.MkDeleted, true)
		}
	}
}
