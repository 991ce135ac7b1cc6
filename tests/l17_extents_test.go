package tests

import (
	"fmt"
	"math"
	"slices"
	"strconv"
	"strings"
	"testing"

	"loop.example/g00899/impl"
)

// extentStart returns the block 0 of a disk with extents.
func extentStart(blocks, size, entries int) string {
	return "EX" + string([]byte{byte(blocks), byte(size), byte(entries)}) + zeros(size-5)
}

// extentShapes are layouts that were computed by hand.
func extentShapes() []impl.ExtentLayout {
	var list []impl.ExtentLayout
	for _, r := range [][4]int64{
		{8, 8, 2, 5}, {8, 16, 2, 3}, {8, 32, 2, 2}, {9, 8, 2, 5}, {11, 16, 2, 3}, {12, 8, 3, 7}, {12, 32, 3, 3}, {15, 8, 3, 7}, {16, 8, 4, 9}, {16, 16, 4, 5}, {16, 32, 4, 3}, {19, 32, 4, 3}, {20, 32, 5, 4}, {31, 8, 7, 15}, {31, 32, 7, 5}, {32, 8, 8, 17}, {64, 16, 16, 17}, {65, 32, 16, 9}, {127, 8, 31, 63}, {127, 16, 31, 32}, {127, 32, 31, 17}, {128, 8, 32, 65}, {128, 16, 32, 33}, {128, 32, 32, 17},
	} {
		list = append(list, impl.ExtentLayout{Blocks: r[0], Size: r[1], Entries: r[2], Data: r[3]})
	}
	return list
}

// extentText returns the bytes of an entry.
func extentText(e impl.ExtentEntry) string {
	if e.State == impl.ExFree {
		return zeros(16)
	}
	blocks := ""
	for _, block := range e.Blocks {
		blocks += string([]byte{byte(block)})
	}
	return string([]byte{byte(e.State)}) + (e.Name + "        ")[:8] + string([]byte{byte(e.Number), byte(e.Tail), byte(len(e.Blocks))}) + (blocks + zeros(4))[:4]
}

// extentOf returns an entry of a file, and goneExtent one of a deleted file.
func extentOf(name string, number, tail int64, blocks ...int64) impl.ExtentEntry {
	return impl.ExtentEntry{State: impl.ExUsed, Name: name, Number: number, Tail: tail, Blocks: blocks}
}

func goneExtent(name string, number, tail int64, blocks ...int64) impl.ExtentEntry {
	return impl.ExtentEntry{State: impl.ExDeleted, Name: name, Number: number, Tail: tail, Blocks: blocks}
}

// withExtents returns a disk with other bytes of its first entries.
func withExtents(disk []string, entries ...string) []string {
	return patched(disk, len(disk[0]), strings.Join(entries, ""))
}

// extentsWith returns a disk with some first entries, and different bytes in each data block.
func extentsWith(t *testing.T, blocks, size int64, entries ...impl.ExtentEntry) []string {
	t.Helper()
	disk := newExtents(t, blocks, size)
	x := plainExtentsOf(disk)
	for block := x.data; block < x.blocks; block++ {
		disk[block] = strings.Repeat(string([]byte{byte('0' + block)}), x.size/2) + strings.Repeat("x", x.size/2)
	}
	texts := []string{}
	for _, e := range entries {
		texts = append(texts, extentText(e))
	}
	return withExtents(disk, texts...)
}

func newExtents(t *testing.T, blocks, size int64) []string {
	t.Helper()
	disk, c := impl.FormatExtents(blocks, size)
	code(t, "format", c, impl.OK)
	return disk
}

func wroteExtents(t *testing.T, disk []string, file string) []string {
	t.Helper()
	after, c := impl.WriteExtents(disk, fileOf(file))
	code(t, "write "+file, c, impl.OK)
	return after
}

// plainExtents is a disk with extents. Its functions follow the words of the document, byte by byte.
type plainExtents struct {
	all                         []byte
	blocks, size, entries, data int
}

func plainExtentsOf(disk []string) plainExtents {
	x := plainExtents{all: []byte(strings.Join(disk, "")), blocks: len(disk), size: len(disk[0])}
	x.entries = x.blocks / 4
	x.data = 1 + up(16*x.entries, x.size)
	return x
}

func (x plainExtents) disk() []string { return cutUp(string(x.all), x.size) }

func (x plainExtents) bytesOf(k int) []byte { return x.all[x.size+16*k:][:16] }

func (x plainExtents) entry(k int) (impl.ExtentEntry, bool) {
	b := x.bytesOf(k)
	if string(b) == zeros(16) {
		return impl.ExtentEntry{}, true
	}
	e := impl.ExtentEntry{State: int64(b[0]), Name: strings.TrimRight(string(b[1:9]), " "), Number: int64(b[9]), Tail: int64(b[10])}
	if b[0] != 1 && b[0] != 229 || !impl.IsName(e.Name) || b[9] > 31 || int(b[10]) > x.size || b[11] > 4 {
		return impl.ExtentEntry{}, false
	}
	for i, block := range b[12:] {
		if i < int(b[11]) {
			e.Blocks = append(e.Blocks, int64(block))
		} else if block != 0 {
			return impl.ExtentEntry{}, false
		}
	}
	return e, true
}

// file returns the entries of a file and their numbers.
func (x plainExtents) file(name string) ([]impl.ExtentEntry, []int) {
	var list []impl.ExtentEntry
	var places []int
	for k := range x.entries {
		if e, ok := x.entry(k); ok && e.State == 1 && e.Name == name {
			list, places = append(list, e), append(places, k)
		}
	}
	return list, places
}

func (x plainExtents) isData(block int64) bool {
	return block >= int64(x.data) && block < int64(x.blocks)
}

func (x plainExtents) names() []string {
	seen := map[string]bool{}
	for k := range x.entries {
		if e, ok := x.entry(k); ok && e.State == 1 {
			seen[e.Name] = true
		}
	}
	list := []string{}
	for name := range seen {
		list = append(list, name)
	}
	slices.Sort(list)
	return list
}

func (x plainExtents) read(name string) (string, int64) {
	list, _ := x.file(name)
	if len(list) == 0 {
		return "", impl.ErrNotFound
	}
	data := ""
	for number := range len(list) {
		at := slices.IndexFunc(list, func(e impl.ExtentEntry) bool { return e.Number == int64(number) })
		if at < 0 {
			return "", impl.ErrDamaged
		}
		e := list[at]
		if number < len(list)-1 && (len(e.Blocks) != 4 || e.Tail != int64(x.size)) {
			return "", impl.ErrDamaged
		}
		if number == len(list)-1 && (len(e.Blocks) == 0 || e.Tail == 0) && (len(list) > 1 || len(e.Blocks) > 0 || e.Tail > 0) {
			return "", impl.ErrDamaged
		}
		for i, block := range e.Blocks {
			if !x.isData(block) {
				return "", impl.ErrDamaged
			}
			part := string(x.all[int(block)*x.size:][:x.size])
			if number == len(list)-1 && i == len(e.Blocks)-1 {
				part = part[:e.Tail]
			}
			data += part
		}
	}
	return data, impl.OK
}

func (x plainExtents) free() []int64 {
	list := []int64{}
	for block := int64(x.data); block < int64(x.blocks); block++ {
		listed := false
		for k := range x.entries {
			e, ok := x.entry(k)
			listed = listed || ok && e.State == 1 && slices.Contains(e.Blocks, block)
		}
		if !listed {
			list = append(list, block)
		}
	}
	return list
}

func (x plainExtents) remove(name string) ([]string, int64) {
	_, places := x.file(name)
	for _, k := range places {
		x.bytesOf(k)[0] = 229
	}
	if len(places) == 0 {
		return nil, impl.ErrNotFound
	}
	return x.disk(), impl.OK
}

func (x plainExtents) write(f impl.File) ([]string, int64) {
	if !impl.IsName(f.Name) || len(f.Data) > 512 {
		return nil, impl.ErrInvalid
	}
	_, places := x.file(f.Name)
	for _, k := range places {
		copy(x.bytesOf(k), zeros(16))
	}
	free, count := x.free(), up(len(f.Data), x.size)
	unused := []int{}
	for k := range x.entries {
		if e, ok := x.entry(k); ok && e.State != 1 {
			unused = append(unused, k)
		}
	}
	extents := max(1, up(count, 4))
	if count > len(free) || extents > len(unused) {
		return nil, impl.ErrFull
	}
	for i, block := range free[:count] {
		copy(x.all[int(block)*x.size:], (f.Data + zeros(x.size))[i*x.size:][:x.size])
	}
	for number := range extents {
		blocks := free[4*number : min(4*number+4, count)]
		tail := x.size
		if number == extents-1 {
			tail = len(f.Data) - max(0, count-1)*x.size
		}
		copy(x.bytesOf(unused[number]), extentText(extentOf(f.Name, int64(number), int64(tail), blocks...)))
	}
	return x.disk(), impl.OK
}

func (x plainExtents) problems() []impl.ExtentProblem {
	list := []impl.ExtentProblem{}
	seen := map[int64]bool{}
	for k := range x.entries {
		e, ok := x.entry(k)
		if !ok {
			list = append(list, impl.ExtentProblem{Kind: impl.XpFormat, Entry: int64(k)})
		}
		if e.State != 1 {
			continue
		}
		var kinds [6][]int64
		for _, block := range e.Blocks {
			if !x.isData(block) {
				kinds[impl.XpOutside] = append(kinds[impl.XpOutside], block)
			} else if seen[block] {
				kinds[impl.XpCrossed] = append(kinds[impl.XpCrossed], block)
			}
			seen[block] = true
		}
		file, places := x.file(e.Name)
		twice, before, behind := false, e.Number == 0, false
		for i, other := range file {
			twice = twice || places[i] < k && other.Number == e.Number
			before = before || other.Number == e.Number-1
			behind = behind || other.Number > e.Number
		}
		if twice || !before {
			kinds[impl.XpNumber] = []int64{0}
		}
		if behind && len(e.Blocks) < 4 || behind && e.Tail != int64(x.size) || len(e.Blocks) == 0 && (e.Number != 0 || e.Tail != 0) || len(e.Blocks) > 0 && e.Tail == 0 {
			kinds[impl.XpLength] = []int64{0}
		}
		for kind, blocks := range kinds {
			for _, block := range blocks {
				list = append(list, impl.ExtentProblem{Kind: int64(kind), Entry: int64(k), Block: block})
			}
		}
	}
	return list
}

// problemsAre requires problems and OK.
func problemsAre(t *testing.T, what string, disk []string, want ...impl.ExtentProblem) {
	t.Helper()
	got, c := impl.ExtentProblems(disk)
	code(t, what, c, impl.OK)
	if !slices.Equal(got, want) {
		t.Errorf("%q: got %v, want %v", what, got, want)
	}
}

// holds requires the contents of a file.
func holds(t *testing.T, what string, disk []string, name, want string) {
	t.Helper()
	got, c := impl.ReadExtents(disk, name)
	textIs(t, what, got, c, want, impl.OK)
}

// noExtents requires an error for a file.
func noExtents(t *testing.T, what string, disk []string, name string, want int64) {
	t.Helper()
	got, c := impl.ReadExtents(disk, name)
	textIs(t, what, got, c, "", want)
}

func TestP18Constants(t *testing.T) {
	is(t, "limits and states", []int64{impl.ExBytes, impl.ExPer, impl.ExMinBlocks, impl.ExFree, impl.ExUsed, impl.ExDeleted}, []int64{16, 4, 8, 0, 1, 229})
	is(t, "kinds", []int64{impl.XpFormat, impl.XpOutside, impl.XpCrossed, impl.XpNumber, impl.XpLength}, []int64{1, 2, 3, 4, 5})
}

func TestP18Formats(t *testing.T) {
	for _, l := range extentShapes() {
		disk, c := impl.FormatExtents(l.Blocks, l.Size)
		all := extentStart(int(l.Blocks), int(l.Size), int(l.Entries)) + zeros(int((l.Blocks-1)*l.Size))
		diskIs(t, "new "+brief(l), disk, c, cutUp(all, int(l.Size)))
		got, c := impl.ExtentsOn(disk)
		is(t, "layout", []any{got, c}, []any{l, int64(impl.OK)})
		free, c := impl.FreeExtents(disk)
		code(t, "free", c, impl.OK)
		listIs(t, "all data blocks are free", free, upTo(int(l.Blocks))[l.Data:]...)
		names, c := impl.ListExtents(disk)
		namesAre(t, "no files", names, c)
		problemsAre(t, "no problems", disk)
	}
}

func TestP18TheExampleByHand(t *testing.T) {
	disk := newExtents(t, 16, 8)
	want := append([]string{"EX\x10\x08\x04\x00\x00\x00"}, slices.Repeat([]string{zeros(8)}, 15)...)
	diskIs(t, "new", disk, impl.OK, want)
	disk, c := impl.WriteExtents(disk, impl.File{Name: "LETTER_1", Data: "the quick brown fox jumps over the lazy dog"})
	want[1], want[2], want[3], want[4] = "\x01LETTER_", "1\x00\x08\x04\x09\x0a\x0b\x0c", "\x01LETTER_", "1\x01\x03\x02\x0d\x0e\x00\x00"
	copy(want[9:], []string{"the quic", "k brown ", "fox jump", "s over t", "he lazy ", "dog" + zeros(5)})
	diskIs(t, "a file", disk, c, want)
	disk, c = impl.WriteExtents(disk, impl.File{Name: "A"})
	want[5], want[6] = "\x01A      ", " \x00\x00\x00\x00\x00\x00\x00"
	diskIs(t, "a file without contents", disk, c, want)
	disk, c = impl.DeleteExtents(disk, "LETTER_1")
	want[1], want[3] = "\xe5LETTER_", "\xe5LETTER_"
	diskIs(t, "deleted", disk, c, want)
	disk, c = impl.WriteExtents(disk, impl.File{Name: "B", Data: "12345678"})
	want[1], want[2], want[9] = "\x01B      ", " \x00\x08\x01\x09\x00\x00\x00", "12345678"
	diskIs(t, "in the first deleted entry", disk, c, want)
	disk, c = impl.WriteExtents(disk, impl.File{Name: "A", Data: "123456789"})
	want[3], want[4], want[5], want[6] = "\x01A      ", " \x00\x01\x02\x0a\x0b\x00\x00", zeros(8), zeros(8)
	want[10], want[11] = "12345678", "9"+zeros(7)
	diskIs(t, "in the second one, and its old entry is free", disk, c, want)
}

func TestP18NoFormats(t *testing.T) {
	noBlocks := []int64{7, 129, 0, -1, 6, 130, 256, -8, 264, 1 << 32, 1<<32 + 16, math.MinInt64, math.MaxInt64}
	noSizes := []int64{0, 1, 4, 7, 9, 12, 15, 17, 24, 31, 33, 64, -8, -16, 256, 264, 1<<32 + 8, math.MinInt64, math.MaxInt64}
	for _, blocks := range noBlocks {
		for _, size := range append(noSizes, 8, 16, 32) {
			disk, c := impl.FormatExtents(blocks, size)
			noDisk(t, "no number of blocks", disk, c, impl.ErrRange)
		}
	}
	for _, blocks := range []int64{8, 16, 128} {
		for _, size := range noSizes {
			disk, c := impl.FormatExtents(blocks, size)
			noDisk(t, "no size", disk, c, impl.ErrInvalid)
		}
	}
}

// noExtentsAtAll requires ErrFormat of all functions, whatever the other arguments are.
func noExtentsAtAll(t *testing.T, what string, disk []string) {
	t.Helper()
	codesAre(t, what, impl.ErrFormat, stage9Extents(disk, 0, impl.ExtentEntry{}, fileOf("A 3"))...)
	codesAre(t, what+", wrong arguments", impl.ErrFormat, stage9Extents(disk, -1, impl.ExtentEntry{Name: "a"}, impl.File{Name: "a"})...)
}

func TestP18NoDisks(t *testing.T) {
	start := func(blocks, size int) string { return extentStart(blocks, size, blocks/4) }
	for _, disk := range noDisks(start) {
		noExtentsAtAll(t, "no disk "+brief(disk), disk)
	}
	chains, _ := impl.FormatChains(16, 16)
	noExtentsAtAll(t, "chains", chains)
	noExtentsAtAll(t, "zero bytes", slices.Repeat([]string{zeros(8)}, 16))
}

func TestP18Headers(t *testing.T) {
	for _, l := range extentShapes() {
		disk := newExtents(t, l.Blocks, l.Size)
		right := disk[0]
		for at := range right {
			for b := range 256 {
				if byte(b) == right[at] {
					continue
				}
				disk[0] = right[:at] + string([]byte{byte(b)}) + right[at+1:]
				if _, c := impl.ExtentsOn(disk); c != impl.ErrFormat {
					t.Errorf("header %q: code %d", disk[0], c)
				}
				if b%85 == at%85 {
					noExtentsAtAll(t, "no header "+brief(disk[0]), disk)
				}
			}
		}
	}
}

// validExtents are entries that are valid on all disks, and their bytes.
func validExtents() map[string]impl.ExtentEntry {
	return map[string]impl.ExtentEntry{
		zeros(16):                                  {},
		"\x01A       \x00\x00\x00" + zeros(4):      extentOf("A", 0, 0),
		"\xe5A       \x00\x00\x00" + zeros(4):      goneExtent("A", 0, 0),
		"\x01ABCDEFGH\x1f\x08\x04\x00\x01\xfe\xff": extentOf("ABCDEFGH", 31, 8, 0, 1, 254, 255),
		"\xe5Z_9_____\x1e\x07\x03\xff\xff\xff\x00": goneExtent("Z_9_____", 30, 7, 255, 255, 255),
		"\x01Z9      \x01\x01\x01\x00\x00\x00\x00": extentOf("Z9", 1, 1, 0),
		"\x01Z9      \x01\x01\x02\x00\x00\x00\x00": extentOf("Z9", 1, 1, 0, 0),
		"\xe5Z9      \x01\x01\x04\x00\x00\x00\x00": goneExtent("Z9", 1, 1, 0, 0, 0, 0),
		"\x01ABC     \x02\x03\x02\x80\x7f\x00\x00": extentOf("ABC", 2, 3, 128, 127),
		"\xe5ABCD    \x0f\x04\x00" + zeros(4):      goneExtent("ABCD", 15, 4),
		"\x01ABCDE   \x10\x05\x04\x09\x08\x07\x06": extentOf("ABCDE", 16, 5, 9, 8, 7, 6),
		"\x01ABCDEF  \x07\x06\x01\x64\x00\x00\x00": extentOf("ABCDEF", 7, 6, 100),
		"\xe5ABCDEFG \x08\x00\x04\x10\x11\x12\x13": goneExtent("ABCDEFG", 8, 0, 16, 17, 18, 19),
	}
}

func TestP18Entries(t *testing.T) {
	for _, l := range extentShapes() {
		disk := wroteExtents(t, newExtents(t, l.Blocks, l.Size), "A 9")
		for k := range l.Entries {
			for bytes, e := range validExtents() {
				got, c := impl.SetExtent(disk, k, e)
				diskIs(t, "set entry", got, c, patched(disk, int(l.Size+16*k), bytes))
				back, c := impl.ExtentAt(got, k)
				is(t, "entry", []any{back, c}, []any{e, int64(impl.OK)})
			}
		}
		for _, k := range append(noBlocks(), l.Entries, l.Entries+1, 32) {
			e, c := impl.ExtentAt(disk, k)
			is(t, "no entry", []any{e, c}, []any{impl.ExtentEntry{}, int64(impl.ErrRange)})
			got, c := impl.SetExtent(disk, k, impl.ExtentEntry{})
			noDisk(t, "no entry", got, c, impl.ErrRange)
		}
		empty := impl.ExtentEntry{Blocks: []int64{}}
		got, c := impl.SetExtent(disk, 0, empty)
		diskIs(t, "no blocks", got, c, withExtents(disk, zeros(16)))
	}
}

// The Tail is limited by the size, and all numbers by their own limits.
func TestP18LimitsOfEntries(t *testing.T) {
	for _, l := range extentShapes() {
		disk := newExtents(t, l.Blocks, l.Size)
		accepts := func(what string, e impl.ExtentEntry, ok bool) {
			t.Helper()
			got, c := impl.SetExtent(disk, 1, e)
			bytes := patched(disk, int(l.Size)+16, extentText(e))
			if !ok {
				noDisk(t, what, got, c, impl.ErrInvalid)
				return
			}
			diskIs(t, what, got, c, bytes)
		}
		for tail := range int64(70) {
			for _, state := range []int64{1, 229} {
				e := impl.ExtentEntry{State: state, Name: "A", Tail: tail, Blocks: []int64{7}}
				accepts("tail", e, tail <= l.Size)
				back, c := impl.ExtentAt(patched(disk, int(l.Size)+16, extentText(e)), 1)
				is(t, "tail", []any{back.Tail, c == impl.OK}, []any{map[bool]int64{true: tail}[tail <= l.Size], tail <= l.Size})
			}
		}
		for number := range int64(256) {
			accepts("number", extentOf("A", number, 0, 7), number < 32)
			e, c := impl.ExtentAt(patched(disk, int(l.Size)+16, extentText(extentOf("A", number, 0, 7))), 1)
			is(t, "number", []any{e.Number, c == impl.OK}, []any{number % 32 * (1 - min(1, number/32)), number < 32})
		}
		for count := range 10 {
			accepts("blocks", extentOf("A", 0, 8, upTo(count)...), count < 5)
		}
		for block := range int64(256) {
			accepts("any block", extentOf("A", 0, 8, 9, block), true)
		}
		for state := range int64(256) {
			e := impl.ExtentEntry{State: state, Name: "A"}
			accepts("state", e, state == 1 || state == 229)
		}
	}
}

// invalidExtents are entries that are valid on no disk.
func invalidExtents() []impl.ExtentEntry {
	list := []impl.ExtentEntry{
		{Name: "A"}, {Number: 1}, {Tail: 1}, {Blocks: []int64{0}}, {Blocks: []int64{9}}, {Number: -1}, {Tail: -1}, {State: 1}, {State: 229}, {State: 2, Name: "A"}, {State: -1, Name: "A"}, {State: 228, Name: "A"}, {State: 230, Name: "A"}, {State: 257, Name: "A"}, {State: 256}, {State: -27, Name: "A"}, {State: math.MaxInt64, Name: "A"}, {State: math.MinInt64},
	}
	for _, e := range []impl.ExtentEntry{extentOf("A", 1, 8, 9, 10), goneExtent("ABCDEFGH", 0, 0)} {
		with := func(change func(e *impl.ExtentEntry)) {
			wrong := e
			wrong.Blocks = slices.Clone(e.Blocks)
			change(&wrong)
			list = append(list, wrong)
		}
		for _, name := range []string{"", "a", "0A", "_", "A B", "A ", " A", "A\x00", "ABCDEFGHI", "A-", "\u00c4", strings.Repeat("A", 300)} {
			with(func(e *impl.ExtentEntry) { e.Name = name })
		}
		for _, n := range append(noBytes(), 33, 64, 100, 255) {
			with(func(e *impl.ExtentEntry) { e.Tail = n })
			with(func(e *impl.ExtentEntry) { e.Number = n })
		}
		for _, n := range noBytes() {
			with(func(e *impl.ExtentEntry) { e.Blocks = []int64{n} })
			with(func(e *impl.ExtentEntry) { e.Blocks = []int64{9, 10, 11, n} })
		}
		with(func(e *impl.ExtentEntry) { e.Number = 32 })
		with(func(e *impl.ExtentEntry) { e.Blocks = upTo(5) })
		with(func(e *impl.ExtentEntry) { e.Blocks = upTo(100000) })
	}
	return list
}

func TestP18InvalidEntries(t *testing.T) {
	disk := extentsWith(t, 16, 32, extentOf("A", 0, 8, 9))
	malformed := withExtents(disk, strings.Repeat("x", 32))
	for _, e := range invalidExtents() {
		for _, k := range []int64{0, 1, 3} {
			got, c := impl.SetExtent(disk, k, e)
			noDisk(t, "no entry "+brief(e), got, c, impl.ErrInvalid)
			got, c = impl.SetExtent(malformed, k, e)
			noDisk(t, "no entry, over a malformed one", got, c, impl.ErrInvalid)
		}
		for _, k := range []int64{-1, 4, math.MinInt64, math.MaxInt64} {
			got, c := impl.SetExtent(disk, k, e)
			noDisk(t, "neither entry nor place", got, c, impl.ErrRange)
		}
	}
}

// malformedExtents are bytes that are those of no valid entry on any disk.
func malformedExtents() []string {
	list := []string{strings.Repeat("x", 16), strings.Repeat(" ", 16), strings.Repeat("\xff", 16), strings.Repeat("\x01", 16), "\x01" + zeros(15), "\xe5" + zeros(15), zeros(1) + "        " + zeros(7), zeros(1) + "A       " + zeros(7), "\x02" + zeros(15)}
	for at := range 16 {
		list = append(list, zeros(at)+"\x01"+zeros(15-at), zeros(at)+" "+zeros(15-at), zeros(at)+"\xff"+zeros(15-at))
	}
	for _, state := range []string{"\x00", "\x02", "\x03", "\xe4", "\xe6", "\xff", "E"} {
		list = append(list, state+"A       \x00\x08\x01\x09\x00\x00\x00")
	}
	for _, name := range []string{"        ", " A      ", "A B     ", "a       ", "0       ", "_A      ", "A\x00\x00\x00\x00\x00\x00\x00", "A      \x00", "ABCDEFG\x00", "ABCDEFGh", "A-      ", "A\xff      ", "ABC   DE"} {
		list = append(list, "\x01"+name+"\x00\x08\x01\x09\x00\x00\x00", "\xe5"+name+"\x00\x00\x00"+zeros(4))
	}
	for _, numbers := range []string{"\x20\x08\x01", "\xff\x08\x01", "\x00\x21\x01", "\x00\xff\x01", "\x00\x40\x01", "\x00\x08\x00", "\x00\x08\x05", "\x00\x08\x06", "\x00\x08\x84", "\x00\x08\xff"} {
		list = append(list, "\x01A       "+numbers+"\x09\x00\x00\x00", "\xe5A       "+numbers+"\x09\x0a\x0b\x0c")
	}
	for count := range 4 {
		for at := count; at < 4; at++ {
			blocks := []byte("\x09\x0a\x0b\x0c")
			clear(blocks[count:])
			blocks[at] = 1
			list = append(list, "\x01A       \x00\x08"+string([]byte{byte(count)})+string(blocks))
		}
	}
	return list
}

func TestP18MalformedEntries(t *testing.T) {
	for _, l := range extentShapes() {
		disk := newExtents(t, l.Blocks, l.Size)
		for i, bytes := range malformedExtents() {
			k := int64(i) % l.Entries
			wrong := patched(disk, int(l.Size+16*k), bytes)
			e, c := impl.ExtentAt(wrong, k)
			is(t, "malformed "+brief(bytes), []any{e, c}, []any{impl.ExtentEntry{}, int64(impl.ErrFormat)})
			problemsAre(t, "malformed", wrong, impl.ExtentProblem{Kind: impl.XpFormat, Entry: k})
			names, c := impl.ListExtents(wrong)
			namesAre(t, "no files", names, c)
			noExtents(t, "no file", wrong, "A", impl.ErrNotFound)
			gone, c := impl.DeleteExtents(wrong, "A")
			noDisk(t, "no file", gone, c, impl.ErrNotFound)
			free, _ := impl.FreeExtents(wrong)
			listIs(t, "all are free", free, upTo(int(l.Blocks))[l.Data:]...)
			got, c := impl.SetExtent(wrong, k, impl.ExtentEntry{})
			diskIs(t, "free instead", got, c, disk)
			want, _ := plainExtentsOf(wrong).write(fileOf("B 9"))
			got, c = impl.WriteExtents(wrong, fileOf("B 9"))
			diskIs(t, "written into another entry", got, c, want)
			is(t, "it stays", string(plainExtentsOf(got).bytesOf(int(k))), bytes)
		}
	}
}

func TestP18Lists(t *testing.T) {
	for _, r := range []struct {
		entries []impl.ExtentEntry
		want    []string
	}{
		{nil, nil},
		{[]impl.ExtentEntry{extentOf("B", 0, 0), extentOf("A", 0, 0)}, []string{"A", "B"}},
		{[]impl.ExtentEntry{extentOf("A", 0, 0), extentOf("B", 9, 9), extentOf("A", 1, 0), extentOf("A", 0, 0)}, []string{"A", "B"}},
		{[]impl.ExtentEntry{{}, extentOf("Z", 31, 0, 200), {}, extentOf("A_", 0, 0), extentOf("A0", 0, 0), extentOf("AB", 0, 0)}, []string{"A0", "AB", "A_", "Z"}},
		{[]impl.ExtentEntry{goneExtent("A", 0, 0), extentOf("C", 0, 0), goneExtent("B", 0, 0)}, []string{"C"}},
		{[]impl.ExtentEntry{goneExtent("A", 0, 0), extentOf("A", 0, 0)}, []string{"A"}},
		{[]impl.ExtentEntry{extentOf("A", 0, 0), extentOf("A", 32, 0), {State: 2, Name: "B"}, extentOf("C", 0, 33)}, []string{"A"}},
	} {
		names, c := impl.ListExtents(extentsWith(t, 32, 32, r.entries...))
		namesAre(t, "names "+brief(r.entries), names, c, r.want...)
	}
}

// Extents are read in the order of their Numbers, whichever entries they have, and if they are complete.
func TestP18ReadingByHand(t *testing.T) {
	// The data blocks are 17 to 31, and contain their numbers as letters.
	text := func(blocks ...int64) string {
		s := ""
		for _, block := range blocks {
			s += strings.Repeat(string(rune('0'+block)), 4) + "xxxx"
		}
		return s
	}
	first, second, third := extentOf("A", 0, 8, 20, 18, 31, 17), extentOf("A", 1, 8, 21, 22, 23, 24), extentOf("A", 2, 3, 30, 25)
	all := text(20, 18, 31, 17, 21, 22, 23, 24, 30) + "III"
	for _, entries := range [][]impl.ExtentEntry{{first, second, third}, {third, second, first}, {second, third, first}, {{}, third, {}, goneExtent("A", 0, 8, 19), first, extentOf("B", 0, 1, 19), second}, {second, extentOf("AA", 3, 0), extentOf("A", 32, 0), first, third}, {first, second, third, extentOf("A", 3, 9, 20), {State: 3, Name: "A"}}} {
		holds(t, "three extents", extentsWith(t, 32, 8, entries...), "A", all)
	}
	for tail := range int64(9) {
		disk := extentsWith(t, 32, 8, extentOf("A", 0, tail, 18))
		if tail == 0 {
			noExtents(t, "a block without a byte", disk, "A", impl.ErrDamaged)
			continue
		}
		holds(t, "one block", disk, "A", text(18)[:tail])
	}
	holds(t, "nothing", extentsWith(t, 32, 8, extentOf("A", 0, 0)), "A", "")
	holds(t, "four blocks", extentsWith(t, 32, 8, extentOf("A", 0, 8, 17, 18, 19, 20)), "A", text(17, 18, 19, 20))
	holds(t, "four blocks and a byte", extentsWith(t, 32, 8, extentOf("A", 0, 8, 17, 18, 19, 20), extentOf("A", 1, 1, 21)), "A", text(17, 18, 19, 20)+"E")
	holds(t, "a block several times", extentsWith(t, 32, 8, extentOf("A", 0, 8, 17, 17, 17, 17), extentOf("A", 1, 2, 17, 17)), "A", text(17, 17, 17, 17, 17)+"AA")
	holds(t, "the last data block", extentsWith(t, 32, 8, extentOf("A", 0, 8, 31)), "A", text(31))
	holds(t, "also in another file", extentsWith(t, 32, 8, extentOf("A", 0, 8, 31), extentOf("B", 0, 8, 31)), "B", text(31))
}

func TestP18ReadingDamagedFiles(t *testing.T) {
	full := func(number int64) impl.ExtentEntry { return extentOf("A", number, 8, 17, 18, 19, 20) }
	for what, entries := range map[string][]impl.ExtentEntry{
		"no number 0":                     {full(1)},
		"no number 0, but a later one":    {full(1), full(2)},
		"no number 1":                     {full(0), full(2)},
		"a number twice":                  {full(0), full(0)},
		"the last number twice":           {full(0), full(1), full(1)},
		"the first number twice":          {full(0), full(1), full(0)},
		"the greatest number":             {full(31)},
		"a missing one is deleted":        {full(0), goneExtent("A", 1, 8, 17, 18, 19, 20), full(2)},
		"a missing one is malformed":      {full(0), {State: 2, Name: "A", Number: 1, Tail: 8, Blocks: []int64{17, 18, 19, 20}}, full(2)},
		"a missing one of another file":   {full(0), extentOf("AA", 1, 8, 17, 18, 19, 20), full(2)},
		"three blocks before the last":    {extentOf("A", 0, 8, 17, 18, 19), full(1)},
		"no block before the last":        {extentOf("A", 0, 0), full(1)},
		"no block before it, full tail":   {extentOf("A", 0, 8), full(1)},
		"a short tail before the last":    {extentOf("A", 0, 7, 17, 18, 19, 20), full(1)},
		"no tail before the last":         {extentOf("A", 0, 0, 17, 18, 19, 20), full(1)},
		"in the middle":                   {full(0), extentOf("A", 1, 7, 17, 18, 19, 20), full(2)},
		"in the middle, too few":          {full(2), extentOf("A", 1, 8, 17), full(0)},
		"no block, a tail":                {extentOf("A", 0, 1)},
		"no block, a full tail":           {extentOf("A", 0, 8)},
		"blocks, no tail":                 {extentOf("A", 0, 0, 17)},
		"four blocks, no tail":            {extentOf("A", 0, 0, 17, 18, 19, 20)},
		"the last one empty":              {full(0), extentOf("A", 1, 0)},
		"the last one empty with a tail":  {full(0), extentOf("A", 1, 1)},
		"the last one without a tail":     {full(0), extentOf("A", 1, 0, 21)},
		"an empty one as number 1":        {extentOf("A", 1, 0)},
		"the block before the data":       {extentOf("A", 0, 8, 16)},
		"block 0":                         {extentOf("A", 0, 8, 0)},
		"the block behind the last one":   {extentOf("A", 0, 8, 32)},
		"block 255":                       {extentOf("A", 0, 8, 17, 255)},
		"not in the last one":             {extentOf("A", 0, 8, 17, 18, 16, 20), full(1)},
		"no data block in the last place": {full(0), extentOf("A", 1, 8, 17, 18, 19, 128)},
	} {
		disk := extentsWith(t, 32, 8, entries...)
		noExtents(t, what, disk, "A", impl.ErrDamaged)
		gone, c := impl.DeleteExtents(disk, "A")
		want, _ := plainExtentsOf(disk).remove("A")
		diskIs(t, what+", deleted", gone, c, want)
		got, c := impl.WriteExtents(disk, fileOf("A 33"))
		want, _ = plainExtentsOf(disk).write(fileOf("A 33"))
		diskIs(t, what+", written", got, c, want)
		holds(t, what+", written", got, "A", fileOf("A 33").Data)
	}
}

// A file may have as many extents as a disk has entries.
func TestP18MostExtents(t *testing.T) {
	entries, want := []impl.ExtentEntry{}, ""
	for number := range int64(32) {
		blocks := []int64{17 + number%111, 127 - number, 17, 18 + number}
		entries = append(entries, extentOf("A", number, 32, blocks...))
	}
	slices.Reverse(entries)
	disk := extentsWith(t, 128, 32, entries...)
	for _, e := range slices.Backward(entries) {
		for _, block := range e.Blocks {
			want += disk[block]
		}
	}
	holds(t, "all entries", disk, "A", want)
	is(t, "more bytes than are written", len(want), 4096)
}

func TestP18NoNames(t *testing.T) {
	disk := wroteExtents(t, newExtents(t, 32, 8), "A 20")
	for _, name := range []string{"", "a", "0", "_", "A ", " ", "A       ", "A\x00", "ABCDEFGHI", "A/B", "\xff", strings.Repeat("A", 1000), "B", "AA"} {
		noExtents(t, "no file "+brief(name), disk, name, impl.ErrNotFound)
		gone, c := impl.DeleteExtents(disk, name)
		noDisk(t, "no file", gone, c, impl.ErrNotFound)
		if !impl.IsName(name) {
			got, c := impl.WriteExtents(disk, impl.File{Name: name})
			noDisk(t, "no name", got, c, impl.ErrInvalid)
			got, c = impl.WriteExtents(disk, impl.File{Name: name, Data: zeros(600)})
			noDisk(t, "neither", got, c, impl.ErrInvalid)
		}
	}
	gone, _ := impl.DeleteExtents(disk, "A")
	noExtents(t, "a deleted file", gone, "A", impl.ErrNotFound)
	again, c := impl.DeleteExtents(gone, "A")
	noDisk(t, "a deleted file", again, c, impl.ErrNotFound)
}

// Files of all lengths are written, on empty disks of all shapes.
func TestP18LengthsOfFiles(t *testing.T) {
	for _, l := range extentShapes() {
		disk := newExtents(t, l.Blocks, l.Size)
		room := (l.Blocks - l.Data) * l.Size
		for _, count := range []int64{0, 1, l.Size - 1, l.Size, l.Size + 1, 4*l.Size - 1, 4 * l.Size, 4*l.Size + 1, 8 * l.Size, 8*l.Size + 1, room - 1, room, room + 1, 511, 512, 513, 514, 1024} {
			data := someData("A", int(count))
			got, c := impl.WriteExtents(disk, impl.File{Name: "A", Data: data})
			switch {
			case count > 512:
				noDisk(t, "too many bytes", got, c, impl.ErrInvalid)
			case count > room:
				noDisk(t, "too few blocks", got, c, impl.ErrFull)
			default:
				want, _ := plainExtentsOf(disk).write(impl.File{Name: "A", Data: data})
				diskIs(t, "written "+strconv.FormatInt(count, 10), got, c, want)
				holds(t, "read", got, "A", data)
				problemsAre(t, "no problems", got)
				free, _ := impl.FreeExtents(got)
				listIs(t, "free", free, upTo(int(l.Blocks))[int(l.Data)+up(int(count), int(l.Size)):]...)
			}
		}
	}
}

// extentAt requires an entry.
func extentAt(t *testing.T, what string, disk []string, k int64, want impl.ExtentEntry) {
	t.Helper()
	e, c := impl.ExtentAt(disk, k)
	is(t, what, []any{extentText(e), c}, []any{extentText(want), int64(impl.OK)})
}

func TestP18ExtentsByHand(t *testing.T) {
	disk := newExtents(t, 32, 8)
	extentAt(t, "nothing", wroteExtents(t, disk, "A 0"), 0, extentOf("A", 0, 0))
	extentAt(t, "a byte", wroteExtents(t, disk, "A 1"), 0, extentOf("A", 0, 1, 17))
	extentAt(t, "four blocks", wroteExtents(t, disk, "A 32"), 0, extentOf("A", 0, 8, 17, 18, 19, 20))
	extentAt(t, "and no more", wroteExtents(t, disk, "A 32"), 1, impl.ExtentEntry{})
	long := wroteExtents(t, disk, "A 33")
	extentAt(t, "four blocks and a byte", long, 0, extentOf("A", 0, 8, 17, 18, 19, 20))
	extentAt(t, "the byte", long, 1, extentOf("A", 1, 1, 21))
	extentAt(t, "and no more", long, 2, impl.ExtentEntry{})
	long = wroteExtents(t, disk, "A 120")
	extentAt(t, "all blocks", long, 3, extentOf("A", 3, 8, 29, 30, 31))
	extentAt(t, "in four entries", long, 4, impl.ExtentEntry{})
	for _, file := range []string{"A 121", "B 1"} {
		got, c := impl.WriteExtents(long, fileOf(file))
		noDisk(t, "too few blocks", got, c, impl.ErrFull)
	}
	both := wroteExtents(t, long, "B 0")
	extentAt(t, "no block is needed", both, 4, extentOf("B", 0, 0))
}

// Entries that are free or deleted are used in ascending order, and malformed ones are not.
func TestP18EntriesForFiles(t *testing.T) {
	malformed := impl.ExtentEntry{State: 3, Name: "M"}
	disk := extentsWith(t, 32, 8, extentOf("B", 0, 1, 18), goneExtent("A", 0, 8, 17), malformed, impl.ExtentEntry{}, extentOf("A", 5, 3, 18, 20), goneExtent("C", 0, 0), extentOf("A", 1, 8, 19, 200), extentOf("D", 0, 4, 22))
	got := wroteExtents(t, disk, "A 75")
	for k, want := range []impl.ExtentEntry{extentOf("B", 0, 1, 18), extentOf("A", 0, 8, 17, 19, 20, 21), malformed, extentOf("A", 1, 8, 23, 24, 25, 26), extentOf("A", 2, 3, 27, 28), goneExtent("C", 0, 0), {}, extentOf("D", 0, 4, 22)} {
		is(t, "entry "+strconv.Itoa(k), string(plainExtentsOf(got).bytesOf(k)), extentText(want))
	}
	holds(t, "written", got, "A", someData("A", 75))
	holds(t, "another file", got, "B", disk[18][:1])
	holds(t, "another file", got, "D", disk[22][:4])
	for _, r := range []struct {
		file string
		want int64
	}{{"N 24", impl.OK}, {"N 64", impl.OK}, {"N 65", impl.ErrFull}, {"N 0", impl.OK}} {
		few := extentsWith(t, 32, 8, extentOf("B", 0, 0), malformed, goneExtent("A", 0, 8, 17), malformed, extentOf("C", 0, 0), malformed, impl.ExtentEntry{}, extentOf("D", 0, 0))
		got, c := impl.WriteExtents(few, fileOf(r.file))
		code(t, "two entries "+r.file, c, r.want)
		if c == impl.OK {
			holds(t, "two entries", got, "N", fileOf(r.file).Data)
		} else {
			noDisk(t, "one too few", got, c, impl.ErrFull)
		}
	}
	none := extentsWith(t, 16, 8, extentOf("A", 0, 0), extentOf("B", 0, 0), malformed, extentOf("D", 0, 0))
	for _, file := range []string{"N 0", "N 1", "M 0"} {
		got, c := impl.WriteExtents(none, fileOf(file))
		noDisk(t, "no entry", got, c, impl.ErrFull)
	}
	extentAt(t, "its own entry", wroteExtents(t, none, "B 9"), 1, extentOf("B", 0, 1, 9, 10))
}

// A file is written over with as many, fewer and more blocks, between other files.
func TestP18WritingOver(t *testing.T) {
	disk := newExtents(t, 64, 8)
	for _, file := range []string{"A 20", "B 70", "C 5"} {
		disk = wroteExtents(t, disk, file)
	}
	for _, r := range []struct {
		count int
		last  []int64
	}{{0, nil}, {1, []int64{36}}, {32, []int64{36, 37, 38, 39}}, {33, []int64{40}}, {64, []int64{40, 41, 42, 43}}, {70, []int64{44}}, {72, []int64{44}}, {73, []int64{44, 46}}, {96, []int64{44, 46, 47, 48}}, {100, []int64{49}}} {
		f := impl.File{Name: "B", Data: someData("BB", r.count)}
		got, c := impl.WriteExtents(disk, f)
		want, _ := plainExtentsOf(disk).write(f)
		diskIs(t, "written over", got, c, want)
		for _, other := range []impl.File{f, fileOf("A 20"), fileOf("C 5")} {
			holds(t, "all files", got, other.Name, other.Data)
		}
		file, _ := plainExtentsOf(got).file("B")
		listIs(t, "the last blocks", file[len(file)-1].Blocks, r.last...)
		problemsAre(t, "no problems", got)
	}
	x := plainExtentsOf(disk)
	is(t, "free", len(x.free()), 64-33-3-9-1)
	got := wroteExtents(t, disk, "B 216")
	got = wroteExtents(t, got, "B 215")
	holds(t, "its own blocks again", got, "B", someData("B", 215))
	list, c := impl.WriteExtents(got, fileOf("B 217"))
	noDisk(t, "a byte too many", list, c, impl.ErrFull)
	list, c = impl.WriteExtents(disk, fileOf("D 145"))
	noDisk(t, "a byte too many for a new file", list, c, impl.ErrFull)
	holds(t, "as many as there are", wroteExtents(t, disk, "D 144"), "D", someData("D", 144))
}

// Deleting sets a byte of each extent, and nothing else.
func TestP18Deleting(t *testing.T) {
	disk := newExtents(t, 64, 8)
	for _, file := range []string{"A 20", "B 70", "C 0", "A 40"} {
		disk = wroteExtents(t, disk, file)
	}
	disk = patched(disk, 8+16*12, extentText(goneExtent("B", 0, 3, 60))+extentText(extentOf("B", 40, 3, 61))+extentText(extentOf("B", 9, 3, 62)))
	for name, places := range map[string][]int{"A": {0, 5}, "B": {1, 2, 3, 14}, "C": {4}} {
		want := disk
		for _, k := range places {
			want = patched(want, 8+16*k, "\xe5")
		}
		got, c := impl.DeleteExtents(disk, name)
		diskIs(t, "deleted "+name, got, c, want)
		noExtents(t, "deleted", got, name, impl.ErrNotFound)
		free, _ := impl.FreeExtents(got)
		listIs(t, "free", free, plainExtentsOf(want).free()...)
	}
}

func TestP18FreeBlocks(t *testing.T) {
	for _, r := range []struct {
		entries []impl.ExtentEntry
		taken   []int64
	}{
		{nil, nil},
		{[]impl.ExtentEntry{extentOf("A", 0, 8, 5, 6, 7, 15)}, []int64{5, 6, 7, 15}},
		{[]impl.ExtentEntry{extentOf("A", 0, 8, 0, 4, 16, 255)}, nil},
		{[]impl.ExtentEntry{goneExtent("A", 0, 8, 5, 6)}, nil},
		{[]impl.ExtentEntry{extentOf("A", 32, 8, 5, 6), extentOf("A", 0, 17, 7)}, nil},
		{[]impl.ExtentEntry{extentOf("A", 31, 0, 9, 9), extentOf("B", 0, 16, 9), goneExtent("C", 0, 0, 10), extentOf("C", 5, 0, 3, 14)}, []int64{9, 14}},
	} {
		disk := extentsWith(t, 16, 16, r.entries...)
		free, c := impl.FreeExtents(disk)
		code(t, "free", c, impl.OK)
		listIs(t, "free "+brief(r.entries), free, slices.DeleteFunc(upTo(16)[5:], func(n int64) bool { return slices.Contains(r.taken, n) })...)
	}
}

// problem returns a problem.
func problem(kind, entry, block int64) impl.ExtentProblem {
	return impl.ExtentProblem{Kind: kind, Entry: entry, Block: block}
}

// The data blocks of the disk are 17 to 31.
func TestP18EachProblemAlone(t *testing.T) {
	full := func(number, first int64) impl.ExtentEntry {
		return extentOf("A", number, 8, first, first+1, first+2, first+3)
	}
	for what, r := range map[string]struct {
		entries []impl.ExtentEntry
		want    []impl.ExtentProblem
	}{
		"none":                              {nil, nil},
		"a file":                            {[]impl.ExtentEntry{full(0, 17), extentOf("A", 1, 3, 21)}, nil},
		"in another order":                  {[]impl.ExtentEntry{extentOf("A", 1, 3, 21), full(0, 17)}, nil},
		"an empty file":                     {[]impl.ExtentEntry{extentOf("A", 0, 0)}, nil},
		"a deleted mess":                    {[]impl.ExtentEntry{goneExtent("A", 7, 0, 0, 17, 17, 255), extentOf("B", 0, 1, 17), goneExtent("B", 0, 1, 17), goneExtent("B", 0, 1)}, nil},
		"a malformed entry":                 {[]impl.ExtentEntry{{State: 2, Name: "A"}, {State: 1, Name: "a"}, extentOf("A", 32, 8, 17), full(0, 17)}, []impl.ExtentProblem{problem(1, 0, 0), problem(1, 1, 0), problem(1, 2, 0)}},
		"a malformed entry lists nothing":   {[]impl.ExtentEntry{extentOf("A", 0, 9, 17), extentOf("A", 0, 8, 17)}, []impl.ExtentProblem{problem(1, 0, 0)}},
		"the block before the data":         {[]impl.ExtentEntry{extentOf("A", 0, 1, 16)}, []impl.ExtentProblem{problem(2, 0, 16)}},
		"block 0 and the one behind all":    {[]impl.ExtentEntry{extentOf("A", 0, 1, 0, 32)}, []impl.ExtentProblem{problem(2, 0, 0), problem(2, 0, 32)}},
		"outside several times":             {[]impl.ExtentEntry{extentOf("A", 0, 1, 200, 3, 200, 17), extentOf("B", 0, 1, 3)}, []impl.ExtentProblem{problem(2, 0, 200), problem(2, 0, 3), problem(2, 0, 200), problem(2, 1, 3)}},
		"crossed within an entry":           {[]impl.ExtentEntry{extentOf("A", 0, 1, 17, 18, 17, 17)}, []impl.ExtentProblem{problem(3, 0, 17), problem(3, 0, 17)}},
		"crossed with an entry before":      {[]impl.ExtentEntry{extentOf("A", 0, 1, 17, 31), extentOf("B", 0, 1, 31, 18, 17)}, []impl.ExtentProblem{problem(3, 1, 31), problem(3, 1, 17)}},
		"crossed within a file":             {[]impl.ExtentEntry{full(0, 17), extentOf("A", 1, 1, 20)}, []impl.ExtentProblem{problem(3, 1, 20)}},
		"the same number":                   {[]impl.ExtentEntry{extentOf("A", 0, 1, 17), extentOf("B", 0, 1, 18), extentOf("A", 0, 1, 19)}, []impl.ExtentProblem{problem(4, 2, 0)}},
		"the same number three times":       {[]impl.ExtentEntry{extentOf("A", 0, 1, 17), extentOf("A", 0, 1, 18), extentOf("A", 0, 1, 19)}, []impl.ExtentProblem{problem(4, 1, 0), problem(4, 2, 0)}},
		"no number before it":               {[]impl.ExtentEntry{extentOf("A", 1, 1, 17), extentOf("B", 0, 1, 18)}, []impl.ExtentProblem{problem(4, 0, 0)}},
		"a gap of numbers":                  {[]impl.ExtentEntry{full(0, 17), extentOf("A", 2, 1, 21)}, []impl.ExtentProblem{problem(4, 1, 0)}},
		"the number before it is deleted":   {[]impl.ExtentEntry{goneExtent("A", 0, 8, 17), extentOf("A", 1, 1, 21)}, []impl.ExtentProblem{problem(4, 1, 0)}},
		"the greatest number":               {[]impl.ExtentEntry{extentOf("A", 31, 1, 17)}, []impl.ExtentProblem{problem(4, 0, 0)}},
		"too few blocks before another one": {[]impl.ExtentEntry{extentOf("A", 1, 1, 21), extentOf("A", 0, 8, 17, 18, 19)}, []impl.ExtentProblem{problem(5, 1, 0)}},
		"a short tail before another one":   {[]impl.ExtentEntry{extentOf("A", 0, 7, 17, 18, 19, 20), extentOf("A", 1, 1, 21)}, []impl.ExtentProblem{problem(5, 0, 0)}},
		"nothing before another one":        {[]impl.ExtentEntry{extentOf("A", 0, 0), extentOf("A", 1, 1, 21)}, []impl.ExtentProblem{problem(5, 0, 0)}},
		"no blocks and a number":            {[]impl.ExtentEntry{full(0, 17), extentOf("A", 1, 0)}, []impl.ExtentProblem{problem(5, 1, 0)}},
		"no blocks and a tail":              {[]impl.ExtentEntry{extentOf("A", 0, 1)}, []impl.ExtentProblem{problem(5, 0, 0)}},
		"no blocks and a full tail":         {[]impl.ExtentEntry{extentOf("A", 0, 8)}, []impl.ExtentProblem{problem(5, 0, 0)}},
		"a block and no tail":               {[]impl.ExtentEntry{extentOf("A", 0, 0, 17)}, []impl.ExtentProblem{problem(5, 0, 0)}},
		"four blocks and no tail":           {[]impl.ExtentEntry{extentOf("A", 0, 0, 17, 18, 19, 20)}, []impl.ExtentProblem{problem(5, 0, 0)}},
		"a later extent of another file":    {[]impl.ExtentEntry{extentOf("B", 0, 3, 17, 18), full(0, 20), extentOf("A", 1, 2, 30)}, nil},
	} {
		problemsAre(t, what, extentsWith(t, 32, 8, r.entries...), r.want...)
	}
}

func TestP18ProblemsInOrder(t *testing.T) {
	disk := extentsWith(t, 32, 8,
		extentOf("A", 2, 0, 31, 0, 31, 16),
		impl.ExtentEntry{State: 4},
		extentOf("A", 2, 8, 31, 100, 17),
		goneExtent("A", 1, 0, 18),
		extentOf("A", 3, 3),
		extentOf("B", 0, 8, 18, 17, 18, 33),
		extentOf("B", 0, 1),
		extentOf("B", 1, 1, 20))
	problemsAre(t, "several at one entry", disk,
		problem(2, 0, 0), problem(2, 0, 16), problem(3, 0, 31), problem(4, 0, 0), problem(5, 0, 0),
		problem(1, 1, 0),
		problem(2, 2, 100), problem(3, 2, 31), problem(4, 2, 0), problem(5, 2, 0),
		problem(5, 4, 0),
		problem(2, 5, 33), problem(3, 5, 17), problem(3, 5, 18),
		problem(4, 6, 0), problem(5, 6, 0))
}

// anyExtent returns an entry, which may be invalid, and whose blocks are often data blocks.
func (s *source) anyExtent(x plainExtents) impl.ExtentEntry {
	e := impl.ExtentEntry{State: []int64{0, 1, 1, 1, 1, 229, 2}[s.below(7)], Name: string(rune('A' + s.below(4))), Number: s.below(3), Tail: []int64{0, 1, int64(x.size), int64(x.size), int64(x.size) + 1}[s.below(5)]}
	for range []int64{0, 1, 2, 4, 4, 4}[s.below(6)] {
		block := int64(x.data) + s.below(int64(x.blocks-x.data))
		if s.below(12) == 0 {
			block = s.below(256)
		}
		e.Blocks = append(e.Blocks, block)
	}
	return e
}

// anyExtents returns a disk with files, of which some may be damaged.
func (s *source) anyExtents(t *testing.T, damages int64) []string {
	shapes := extentShapes()
	l := shapes[s.below(int64(len(shapes)))]
	x := plainExtentsOf(newExtents(t, l.Blocks, l.Size))
	for at := x.size + 16*x.entries; at < len(x.all); at++ {
		x.all[at] = byte(s.below(256))
	}
	disk := x.disk()
	for range s.below(l.Entries + 2) {
		if after, c := impl.WriteExtents(disk, impl.File{Name: string(rune('A' + s.below(6))), Data: s.bytes(int(s.below(1 + l.Size*8)))}); c == impl.OK {
			disk = after
		}
		if after, c := impl.DeleteExtents(disk, string(rune('A'+s.below(20)))); c == impl.OK {
			disk = after
		}
	}
	for range damages {
		k := int(s.below(l.Entries))
		x := plainExtentsOf(disk)
		switch s.below(3) {
		case 0:
			x.bytesOf(k)[s.below(16)] = byte(s.below(256))
		case 1:
			x.bytesOf(k)[9+s.below(3)] = byte(s.below(5))
		default:
			copy(x.bytesOf(k), extentText(s.anyExtent(x)))
		}
		disk = x.disk()
	}
	return disk
}

// extentsAre compares all functions with those that follow the words of the document.
func extentsAre(t *testing.T, disk []string, from *source) {
	t.Helper()
	x := plainExtentsOf(disk)
	names, c := impl.ListExtents(disk)
	namesAre(t, "names", names, c, x.names()...)
	free, c := impl.FreeExtents(disk)
	code(t, "free", c, impl.OK)
	listIs(t, "free", free, x.free()...)
	problemsAre(t, "problems", disk, x.problems()...)
	for k := range x.entries {
		e, c := impl.ExtentAt(disk, int64(k))
		want, ok := x.entry(k)
		is(t, "entry", []any{fmt.Sprint(e), c == impl.OK}, []any{fmt.Sprint(want), ok})
	}
	for i := range 5 {
		name := string(rune('A' + from.below(6)))
		data, c := impl.ReadExtents(disk, name)
		want, wantCode := x.read(name)
		textIs(t, "read", data, c, want, wantCode)
		gone, c := impl.DeleteExtents(disk, name)
		wantDisk, wantCode := plainExtentsOf(disk).remove(name)
		is(t, "delete", fmt.Sprintf("%q %d", gone, c), fmt.Sprintf("%q %d", wantDisk, wantCode))
		f := impl.File{Name: name, Data: from.bytes(int(from.below([]int64{1, 20, 100, 300, 514}[i])))}
		after, c := impl.WriteExtents(disk, f)
		wantDisk, wantCode = plainExtentsOf(disk).write(f)
		is(t, "write", fmt.Sprintf("%q %d", after, c), fmt.Sprintf("%q %d", wantDisk, wantCode))
	}
}

func TestP18AnyDisks(t *testing.T) {
	from := source(310)
	for i := range 600 {
		disk := from.anyExtents(t, int64(i%6))
		before := slices.Clone(disk)
		extentsAre(t, disk, &from)
		is(t, "argument", disk, before)
	}
}

// Files are written, written over and deleted, and each time all of them are there, and there are no problems.
func TestP18ManyFiles(t *testing.T) {
	from := source(311)
	for range 60 {
		disk := from.anyExtents(t, 0)
		files := map[string]string{}
		names, _ := impl.ListExtents(disk)
		for _, name := range names {
			files[name], _ = impl.ReadExtents(disk, name)
		}
		for range 40 {
			name := string(rune('A' + from.below(8)))
			data := from.bytes(int(from.below(90)))
			after, c := impl.WriteExtents(disk, impl.File{Name: name, Data: data})
			if from.below(3) == 0 {
				after, c = impl.DeleteExtents(disk, name)
				_, exists := files[name]
				is(t, "deleted if it exists", c == impl.OK, exists)
				data = "deleted"
			}
			if c != impl.OK {
				continue
			}
			disk, files[name] = after, data
			if data == "deleted" {
				delete(files, name)
			}
			allExtentsAre(t, disk, files)
		}
	}
}

// allExtentsAre requires that a disk has exactly some files, whose blocks are not free, and no problems.
func allExtentsAre(t *testing.T, disk []string, files map[string]string) {
	t.Helper()
	want, taken := []string{}, 0
	for name, data := range files {
		want = append(want, name)
		taken += up(len(data), len(disk[0]))
		holds(t, "file", disk, name, data)
	}
	slices.Sort(want)
	names, c := impl.ListExtents(disk)
	namesAre(t, "names", names, c, want...)
	free, _ := impl.FreeExtents(disk)
	x := plainExtentsOf(disk)
	is(t, "as many blocks as needed", len(free)+taken, x.blocks-x.data)
	problemsAre(t, "no problems", disk)
}
