package tests

import (
	"fmt"
	"math"
	"slices"
	"strconv"
	"strings"
	"testing"

	"loop.example/g00899/impl"
)

// cutUp returns blocks with some bytes.
func cutUp(all string, size int) []string {
	list := []string{}
	for at := 0; at < len(all); at += size {
		list = append(list, all[at:at+size])
	}
	return list
}

// patched returns a disk with other bytes from a place on.
func patched(disk []string, at int, s string) []string {
	all := strings.Join(disk, "")
	return cutUp(all[:at]+s+all[at+len(s):], len(disk[0]))
}

// zeros returns so many zero bytes.
func zeros(count int) string { return strings.Repeat("\x00", count) }

// diskIs requires a disk and OK.
func diskIs(t *testing.T, what string, got []string, gotCode int64, want []string) {
	t.Helper()
	code(t, what, gotCode, impl.OK)
	is(t, what+": blocks", len(got), len(want))
	for block, data := range got[:min(len(got), len(want))] {
		if data != want[block] {
			t.Errorf("%q: block %d: got %.64q, want %q", what, block, data, want[block])
			return
		}
	}
}

// noDisk requires an error and no disk.
func noDisk(t *testing.T, what string, got []string, gotCode, want int64) {
	t.Helper()
	code(t, what, gotCode, want)
	is(t, what+": nothing else", len(got), 0)
}

// textIs requires a string and a code.
func textIs(t *testing.T, what, got string, gotCode int64, want string, wantCode int64) {
	t.Helper()
	is(t, what, []any{got, impl.CodeName(gotCode)}, []any{want, impl.CodeName(wantCode)})
}

// namesAre requires names and OK.
func namesAre(t *testing.T, what string, got []string, gotCode int64, want ...string) {
	t.Helper()
	code(t, what, gotCode, impl.OK)
	if !slices.Equal(got, want) {
		t.Errorf("%q: got %s, want %s", what, brief(got), brief(want))
	}
}

// codesAre requires that all functions, of whose results each second one is a code, return this one and nothing else.
func codesAre(t *testing.T, what string, want int64, results ...any) {
	t.Helper()
	for i := 0; i < len(results); i += 2 {
		is(t, what+", function "+strconv.Itoa(i/2), impl.CodeName(results[i].(int64)), impl.CodeName(want))
	}
	noMore(t, what, results...)
}

// chainStart returns the block 0 of a disk with chains.
func chainStart(blocks, entries, size int) string {
	s := "CH" + string([]byte{byte(blocks), byte(entries)})
	check := plainCheck(s, 65535)
	return s + string([]byte{byte(check / 256), byte(check % 256)}) + zeros(size-6)
}

// chainShapes are layouts that were computed by hand.
func chainShapes() []impl.ChainLayout {
	var list []impl.ChainLayout
	for _, r := range [][5]int64{
		{8, 8, 1, 2, 4}, {8, 16, 1, 2, 3}, {8, 32, 1, 2, 3}, {9, 8, 1, 3, 5}, {15, 8, 1, 3, 5}, {15, 16, 1, 2, 3}, {16, 8, 2, 3, 6}, {16, 16, 2, 2, 4}, {16, 32, 2, 2, 3}, {17, 16, 2, 3, 5}, {23, 8, 2, 4, 7}, {24, 8, 3, 4, 9}, {24, 32, 3, 2, 4}, {32, 32, 4, 2, 4}, {33, 32, 4, 3, 5}, {40, 8, 5, 6, 14}, {63, 16, 7, 5, 11}, {64, 8, 8, 9, 21}, {64, 16, 8, 5, 11}, {65, 32, 8, 4, 7}, {127, 8, 15, 17, 40}, {127, 32, 15, 5, 11}, {128, 8, 16, 17, 41}, {128, 16, 16, 9, 21}, {128, 32, 16, 5, 11},
	} {
		list = append(list, impl.ChainLayout{Blocks: r[0], Size: r[1], Entries: r[2], Dir: r[3], Data: r[4]})
	}
	return list
}

// noDisks are lists that are not the blocks of a disk, with the header that start returns for a number of blocks, and for some size.
func noDisks(start func(blocks, size int) string) [][]string {
	list := [][]string{nil, {}, {""}, {start(1, 8)}, make([]string, 16), make([]string, 100000)}
	of := func(blocks, size int) []string {
		disk := slices.Repeat([]string{zeros(size)}, blocks)
		copy(disk, []string{(start(blocks, max(size, 8)) + zeros(64))[:size]})
		return disk
	}
	for _, size := range []int{1, 4, 6, 7, 9, 12, 15, 17, 24, 31, 33, 64, 128, 256, 512} {
		list = append(list, of(8, size), of(16, size), of(128, size))
	}
	for _, size := range []int{8, 16, 32} {
		for _, blocks := range []int{1, 2, 6, 7, 129, 130, 255, 256, 264, 272} {
			list = append(list, of(blocks, size))
		}
		for _, at := range []int{0, 1, 2, 7, 14, 15} {
			for _, wrong := range []int{0, 1, size - 1, size + 1, size / 2, size * 2, 8, 16, 32} {
				if wrong != size {
					disk := of(16, size)
					disk[at] = (disk[at] + zeros(64))[:wrong]
					list = append(list, disk)
				}
			}
		}
	}
	return list
}

// plainChains is a disk with chains. Its functions follow the words of the document, byte by byte.
type plainChains struct {
	all                              []byte
	blocks, size, entries, dir, data int
}

// up returns a quotient rounded up.
func up(a, b int) int { return int(math.Ceil(float64(a) / float64(b))) }

func plainChainsOf(disk []string) plainChains {
	x := plainChains{all: []byte(strings.Join(disk, "")), blocks: len(disk), size: len(disk[0])}
	x.entries = min(16, x.blocks/8)
	x.dir = 1 + up(x.blocks, x.size)
	x.data = x.dir + up(x.entries*12, x.size)
	return x
}

func (x plainChains) disk() []string { return cutUp(string(x.all), x.size) }

func (x plainChains) bytesOf(k int) []byte { return x.all[x.dir*x.size+12*k:][:12] }

func (x plainChains) entry(k int) (impl.ChainEntry, bool) {
	b := x.bytesOf(k)
	if string(b) == zeros(12) {
		return impl.ChainEntry{}, true
	}
	name, rest, _ := strings.Cut(string(b[:8]), "\x00")
	e := impl.ChainEntry{Name: name, First: int64(b[8]), Length: int64(b[9])*256 + int64(b[10]), Used: b[11] == 1, Deleted: b[11] == 2}
	if !impl.IsName(name) || strings.Trim(rest, "\x00") != "" || e.Length > 512 || b[11] == 0 || b[11] > 2 {
		return impl.ChainEntry{}, false
	}
	return e, true
}

func (x plainChains) chain(first int64) ([]int64, int64) {
	list, seen := []int64{}, map[int64]bool{}
	for at := first; at != 0 || len(list) > 0; at = int64(x.all[x.size+int(at)]) {
		if len(list) > 0 && at == 255 {
			return list, impl.OK
		}
		if at < int64(x.data) || at >= int64(x.blocks) {
			return nil, impl.ErrRange
		}
		if seen[at] {
			return nil, impl.ErrState
		}
		if link := x.all[x.size+int(at)]; link == 0 || link == 253 || link == 254 {
			return nil, impl.ErrDamaged
		}
		seen[at] = true
		list = append(list, at)
	}
	return list, impl.OK
}

func (x plainChains) find(name string) (int, int64) {
	for k := range x.entries {
		e, ok := x.entry(k)
		if !ok {
			return 0, impl.ErrFormat
		}
		if e.Used && e.Name == name {
			return k, impl.OK
		}
	}
	return 0, impl.ErrNotFound
}

func (x plainChains) free() []int64 {
	list := []int64{}
	for b := x.data; b < x.blocks; b++ {
		if x.all[x.size+b] == 0 {
			list = append(list, int64(b))
		}
	}
	return list
}

func (x plainChains) names() ([]string, int64) {
	list := []string{}
	for k := range x.entries {
		e, ok := x.entry(k)
		if !ok {
			return nil, impl.ErrFormat
		}
		if e.Used {
			list = append(list, e.Name)
		}
	}
	slices.Sort(list)
	return list, impl.OK
}

func (x plainChains) read(name string) (string, int64) {
	k, c := x.find(name)
	if c != impl.OK {
		return "", c
	}
	e, _ := x.entry(k)
	list, c := x.chain(e.First)
	if c != impl.OK {
		return "", c
	}
	if len(list) != up(int(e.Length), x.size) {
		return "", impl.ErrDamaged
	}
	data := ""
	for _, b := range list {
		data += string(x.all[int(b)*x.size:][:x.size])
	}
	return data[:e.Length], impl.OK
}

// freed sets the links of the blocks of an entry to ChFree.
func (x plainChains) freed(k int) int64 {
	e, _ := x.entry(k)
	list, c := x.chain(e.First)
	for _, b := range list {
		x.all[x.size+int(b)] = 0
	}
	return c
}

func (x plainChains) remove(name string) ([]string, int64) {
	k, c := x.find(name)
	if c == impl.OK {
		c = x.freed(k)
	}
	if c != impl.OK {
		return nil, c
	}
	x.bytesOf(k)[11] = 2
	return x.disk(), impl.OK
}

// unused returns the entry for a new file.
func (x plainChains) unused() (int, int64) {
	for _, state := range []byte{0, 2} {
		for k := range x.entries {
			if x.bytesOf(k)[11] == state {
				return k, impl.OK
			}
		}
	}
	return 0, impl.ErrFull
}

func (x plainChains) write(name, data string) ([]string, int64) {
	k, c := x.find(name)
	if c == impl.OK {
		c = x.freed(k)
	} else if c == impl.ErrNotFound {
		k, c = x.unused()
	}
	if c != impl.OK {
		return nil, c
	}
	count, free := up(len(data), x.size), x.free()
	if count > len(free) {
		return nil, impl.ErrFull
	}
	blocks := append(slices.Clone(free[:count]), 255)
	for i, b := range blocks[:count] {
		copy(x.all[int(b)*x.size:], (data + zeros(x.size))[i*x.size:][:x.size])
		x.all[x.size+int(b)] = byte(blocks[i+1])
	}
	first := blocks[0]
	if count == 0 {
		first = 0
	}
	copy(x.bytesOf(k), (name + zeros(8))[:8]+string([]byte{byte(first), byte(len(data) / 256), byte(len(data) % 256), 1}))
	return x.disk(), impl.OK
}

// newChains returns an empty disk.
func newChains(t *testing.T, blocks, size int64) []string {
	t.Helper()
	disk, c := impl.FormatChains(blocks, size)
	code(t, "format", c, impl.OK)
	return disk
}

// chainsWith returns a disk on which files were written. Each of them is a name, a blank, and how many bytes.
func chainsWith(t *testing.T, blocks, size int64, files ...string) []string {
	t.Helper()
	disk := newChains(t, blocks, size)
	for _, f := range files {
		disk = wroteChain(t, disk, f)
	}
	return disk
}

// someData returns data that depend on the name of a file.
func someData(name string, count int) string {
	from := source(len(name)*1000 + int(name[0]))
	return from.bytes(count)
}

// fileOf returns a file that is described by a name, a blank, and how many bytes.
func fileOf(text string) impl.File {
	name, digits, _ := strings.Cut(text, " ")
	count, _ := strconv.Atoi(digits)
	return impl.File{Name: name, Data: someData(name, count)}
}

func wroteChain(t *testing.T, disk []string, file string) []string {
	t.Helper()
	after, c := impl.WriteChain(disk, fileOf(file))
	code(t, "write "+file, c, impl.OK)
	return after
}

// withLinks returns a disk with other links; each of them is a block and its link.
func withLinks(disk []string, links ...[2]int) []string {
	for _, r := range links {
		disk = patched(disk, len(disk[0])+r[0], string([]byte{byte(r[1])}))
	}
	return disk
}

// withEntry returns a disk with other bytes of an entry.
func withEntry(disk []string, k int, bytes string) []string {
	x := plainChainsOf(disk)
	return patched(disk, x.dir*x.size+12*k, bytes)
}

func TestP17Constants(t *testing.T) {
	is(t, "limits and links", []int64{impl.ChMinBlocks, impl.ChEntrySize, impl.ChFree, impl.ChReserved, impl.ChBad, impl.ChEnd}, []int64{8, 12, 0, 253, 254, 255})
}

func TestP17Formats(t *testing.T) {
	for _, l := range chainShapes() {
		disk, c := impl.FormatChains(l.Blocks, l.Size)
		table := strings.Repeat("\xfd", int(l.Data))
		all := chainStart(int(l.Blocks), int(l.Entries), int(l.Size)) + table + zeros(int((l.Blocks-1)*l.Size-l.Data))
		diskIs(t, "new "+brief(l), disk, c, cutUp(all, int(l.Size)))
		got, c := impl.LayoutOf(disk)
		is(t, "layout", []any{got, c}, []any{l, int64(impl.OK)})
		free, c := impl.FreeChains(disk)
		code(t, "free", c, impl.OK)
		listIs(t, "all data blocks are free", free, upTo(int(l.Blocks))[l.Data:]...)
		names, c := impl.ListChains(disk)
		namesAre(t, "no files", names, c)
		for k := range l.Entries {
			e, c := impl.EntryAt(disk, k)
			is(t, "empty entry", []any{e, c}, []any{impl.ChainEntry{}, int64(impl.OK)})
		}
	}
}

func TestP17TheExampleByHand(t *testing.T) {
	disk := newChains(t, 16, 16)
	is(t, "the first bytes", disk[0][:4], "CH\x10\x02")
	is(t, "the table", disk[1], strings.Repeat("\xfd", 4)+zeros(12))
	disk, _ = impl.WriteChain(disk, impl.File{Name: "B_2", Data: "abcdefghijklmnopqrst"})
	disk, c := impl.WriteChain(disk, impl.File{Name: "A", Data: "hello"})
	want := []string{
		chainStart(16, 2, 16),
		"\xfd\xfd\xfd\xfd\x05\xff\xff" + zeros(9),
		"B_2\x00\x00\x00\x00\x00\x04\x00\x14\x01A\x00\x00\x00",
		"\x00\x00\x00\x00\x06\x00\x05\x01" + zeros(8),
		"abcdefghijklmnop", "qrst" + zeros(12), "hello" + zeros(11),
	}
	diskIs(t, "two files", disk, c, append(want, slices.Repeat([]string{zeros(16)}, 9)...))
	disk, c = impl.DeleteChain(disk, "B_2")
	want[1], want[2] = "\xfd\xfd\xfd\xfd\x00\x00\xff"+zeros(9), "B_2\x00\x00\x00\x00\x00\x04\x00\x14\x02A\x00\x00\x00"
	diskIs(t, "a deleted file", disk, c, append(want, slices.Repeat([]string{zeros(16)}, 9)...))
	disk, c = impl.WriteChain(disk, impl.File{Name: "ABCDEFGH", Data: strings.Repeat("x", 33)})
	want[1], want[2] = "\xfd\xfd\xfd\xfd\x05\x07\xff\xff"+zeros(8), "ABCDEFGH\x04\x00\x21\x01A\x00\x00\x00"
	want[4], want[5] = strings.Repeat("x", 16), strings.Repeat("x", 16)
	want = append(want, "x"+zeros(15))
	diskIs(t, "in the deleted entry", disk, c, append(want, slices.Repeat([]string{zeros(16)}, 8)...))
}

func TestP17NoFormats(t *testing.T) {
	for _, size := range []int64{8, 16, 32, 9, math.MaxInt64} {
		for _, blocks := range []int64{7, 129, 0, -1, 6, 130, 256, -8, 264, 1 << 32, 1<<32 + 16, math.MinInt64, math.MaxInt64} {
			disk, c := impl.FormatChains(blocks, size)
			noDisk(t, "no number of blocks", disk, c, impl.ErrRange)
		}
	}
	for _, blocks := range []int64{8, 16, 128, 7} {
		for _, size := range []int64{0, 1, 4, 7, 9, 12, 15, 17, 24, 31, 33, 64, -8, -16, 256, 264, 1<<32 + 8, math.MinInt64, math.MaxInt64} {
			disk, c := impl.FormatChains(blocks, size)
			noDisk(t, "no size", disk, c, impl.ErrRange)
		}
	}
}

func TestP17NoDisks(t *testing.T) {
	start := func(blocks, size int) string { return chainStart(blocks, min(16, blocks/8), size) }
	for _, disk := range noDisks(start) {
		codesAre(t, "no disk "+brief(disk), impl.ErrInvalid, stage9Chains(disk, 0, 0, impl.ChainEntry{}, fileOf("A 3"))...)
		codesAre(t, "whatever the arguments", impl.ErrInvalid, stage9Chains(disk, -1, 256, impl.ChainEntry{Name: "a"}, impl.File{Name: "a"})...)
	}
}

// otherHeaders are blocks that are not the header of a disk with chains.
func otherHeaders(blocks, entries, size int) []string {
	right := chainStart(blocks, entries, size)
	list := []string{zeros(size), strings.Repeat("\xff", size), "EX" + right[2:], "ch" + right[2:]}
	for at := range right {
		for b := range 256 {
			if byte(b) != right[at] && (size == 8 || b%7 == int(right[at])%7) {
				list = append(list, right[:at]+string([]byte{byte(b)})+right[at+1:])
			}
		}
	}
	for by := 1; by < 256; by++ {
		list = append(list, chainStart(blocks+by, entries, size), chainStart(blocks, entries+by, size))
	}
	return append(list, chainStart(entries, blocks, size), right[:2]+string([]byte{byte(blocks), byte(entries)})+right[5:6]+right[4:5]+right[6:])
}

func TestP17Headers(t *testing.T) {
	for _, l := range chainShapes() {
		if l.Blocks%8 > 0 || l.Blocks == 40 {
			continue
		}
		disk := chainsWith(t, l.Blocks, l.Size, "A 5")
		for i, s := range otherHeaders(int(l.Blocks), int(l.Entries), int(l.Size)) {
			disk[0] = s
			if _, c := impl.LayoutOf(disk); c != impl.ErrFormat {
				t.Errorf("header %q: code %d", s, c)
			}
			if i%97 == 0 || i > 600 && i%29 == 0 {
				codesAre(t, "no header "+brief(s), impl.ErrFormat, stage9Chains(disk, l.Data, 255, impl.ChainEntry{}, fileOf("A 3"))...)
				codesAre(t, "whatever the arguments", impl.ErrFormat, stage9Chains(disk, -1, 256, impl.ChainEntry{Name: "a"}, impl.File{Name: "a"})...)
			}
		}
	}
}

func TestP17Links(t *testing.T) {
	for _, l := range chainShapes() {
		disk := chainsWith(t, l.Blocks, l.Size, "A 9")
		for block := range l.Blocks {
			for link := range int64(256) {
				if l.Blocks > 17 && (block+link)%11 > 0 {
					continue
				}
				got, c := impl.SetLink(disk, block, link)
				diskIs(t, "set link", got, c, withLinks(disk, [2]int{int(block), int(link)}))
				back, c := impl.LinkAt(got, block)
				is(t, "link", []int64{back, c}, []int64{link, impl.OK})
			}
			for _, link := range noBytes() {
				got, c := impl.SetLink(disk, block, link)
				noDisk(t, "no link", got, c, impl.ErrRange)
			}
		}
		for _, block := range append(noBlocks(), l.Blocks, l.Blocks+1, 253, 255) {
			link, c := impl.LinkAt(disk, block)
			is(t, "no block", []int64{link, c}, []int64{0, impl.ErrRange})
			got, c := impl.SetLink(disk, block, 0)
			noDisk(t, "no block", got, c, impl.ErrRange)
		}
	}
}

// validEntries are entries and their bytes.
func validEntries() map[string]impl.ChainEntry {
	return map[string]impl.ChainEntry{
		zeros(12): {},
		"A\x00\x00\x00\x00\x00\x00\x00\x00\x00\x00\x01": {Name: "A", Used: true},
		"A\x00\x00\x00\x00\x00\x00\x00\x00\x00\x00\x02": {Name: "A", Deleted: true},
		"ABCDEFGH\xff\x02\x00\x01":                      {Name: "ABCDEFGH", First: 255, Length: 512, Used: true},
		"Z_99\x00\x00\x00\x00\x01\x01\xff\x02":          {Name: "Z_99", First: 1, Length: 511, Deleted: true},
		"A9_____\x00\x80\x00\xff\x01":                   {Name: "A9_____", First: 128, Length: 255, Used: true},
		"Q\x00\x00\x00\x00\x00\x00\x00\x00\x02\x00\x02": {Name: "Q", Length: 512, Deleted: true},
		"ABC\x00\x00\x00\x00\x00\xfd\x01\x00\x01":       {Name: "ABC", First: 253, Length: 256, Used: true},
		"ABCDEFG\x00\x00\x00\x01\x02":                   {Name: "ABCDEFG", Length: 1, Deleted: true},
		"A\x00\x00\x00\x00\x00\x00\x00\x01\x00\x00\x01": {Name: "A", First: 1, Used: true},
		"AB\x00\x00\x00\x00\x00\x00\x07\x00\x07\x01":    {Name: "AB", First: 7, Length: 7, Used: true},
		"ABCDE\x00\x00\x00\x10\x01\x10\x02":             {Name: "ABCDE", First: 16, Length: 272, Deleted: true},
		"ABCDEF\x00\x00\x03\x00\x80\x01":                {Name: "ABCDEF", First: 3, Length: 128, Used: true},
		"A0000000\x04\x01\x01\x02":                      {Name: "A0000000", First: 4, Length: 257, Deleted: true},
		"Z\x00\x00\x00\x00\x00\x00\x00\x05\x01\xfe\x01": {Name: "Z", First: 5, Length: 510, Used: true},
		"U_U_U_U_\x02\x00\x02\x01":                      {Name: "U_U_U_U_", First: 2, Length: 2, Used: true},
		"E255\x00\x00\x00\x00\xfe\x00\xfe\x02":          {Name: "E255", First: 254, Length: 254, Deleted: true},
		"AZ09_\x00\x00\x00\x7f\x00\x00\x01":             {Name: "AZ09_", First: 127, Used: true},
		"R\x00\x00\x00\x00\x00\x00\x00\x00\x00\x02\x01": {Name: "R", Length: 2, Used: true},
		"D\x00\x00\x00\x00\x00\x00\x00\x00\x00\x00\x02": {Name: "D", Deleted: true},
		"LOST00\x00\x00\x29\x00\x29\x02":                {Name: "LOST00", First: 41, Length: 41, Deleted: true},
		"DUP99\x00\x00\x00\x28\x01\x28\x01":             {Name: "DUP99", First: 40, Length: 296, Used: true},
		"C\x00\x00\x00\x00\x00\x00\x00\x43\x00\x48\x02": {Name: "C", First: 67, Length: 72, Deleted: true},
		"H\x00\x00\x00\x00\x00\x00\x00\x48\x00\x43\x01": {Name: "H", First: 72, Length: 67, Used: true},
	}
}

// malformedEntries are bytes that are not those of a valid entry.
func malformedEntries() []string {
	list := []string{
		zeros(11) + "\x01", zeros(11) + "\x02", zeros(11) + "\x03", zeros(11) + "\xff", zeros(8) + "\x01" + zeros(3), zeros(9) + "\x01" + zeros(2), zeros(10) + "\x01\x00", "A" + zeros(11), strings.Repeat("\xff", 12), strings.Repeat(" ", 12),
	}
	for _, state := range []string{"\x00", "\x03", "\x04", "\x80", "\xff"} {
		list = append(list, "A"+zeros(10)+state, "ABCDEFGH\x04\x00\x05"+state)
	}
	for _, name := range []string{"", "a", "0", "_A", " ", " A", "A ", "A B", "A\x00B", "A\x00\x00\x00\x00\x00\x00B", "A\x00 ", "\x00A", "AB-", "AB\xff", "ABCDEFg", "ABCDEFGh", "ABCDEFG ", "\xc3\x84", "AB\x00\x01", "ABCDEF\x00G"} {
		for _, state := range []string{"\x01", "\x02"} {
			list = append(list, (name + zeros(8))[:8]+"\x00\x00\x00"+state, (name + zeros(8))[:8]+"\x04\x00\x05"+state)
		}
	}
	for _, length := range []string{"\x02\x01", "\x02\xff", "\x03\x00", "\x04\x00", "\x80\x00", "\xff\xff"} {
		list = append(list, "A"+zeros(7)+"\x04"+length+"\x01", "A"+zeros(7)+"\x00"+length+"\x02")
	}
	return list
}

func TestP17Entries(t *testing.T) {
	for _, l := range chainShapes() {
		disk := chainsWith(t, l.Blocks, l.Size, "A 9")
		for k := range l.Entries {
			for bytes, e := range validEntries() {
				got, c := impl.SetEntry(disk, k, e)
				diskIs(t, "set entry", got, c, withEntry(disk, int(k), bytes))
				back, c := impl.EntryAt(got, k)
				is(t, "entry", []any{back, c}, []any{e, int64(impl.OK)})
			}
		}
		for _, k := range append(noBlocks(), l.Entries, l.Entries+1, 16) {
			e, c := impl.EntryAt(disk, k)
			is(t, "no entry", []any{e, c}, []any{impl.ChainEntry{}, int64(impl.ErrRange)})
			got, c := impl.SetEntry(disk, k, impl.ChainEntry{})
			noDisk(t, "no entry", got, c, impl.ErrRange)
		}
	}
}

func TestP17MalformedEntries(t *testing.T) {
	for _, l := range chainShapes() {
		if l.Blocks > 40 && l.Blocks < 127 {
			continue
		}
		disk := newChains(t, l.Blocks, l.Size)
		for i, bytes := range malformedEntries() {
			k := int64(i) % l.Entries
			wrong := withEntry(disk, int(k), bytes)
			e, c := impl.EntryAt(wrong, k)
			is(t, "malformed "+brief(bytes), []any{e, c}, []any{impl.ChainEntry{}, int64(impl.ErrFormat)})
			names, c := impl.ListChains(wrong)
			noDisk(t, "no names", names, c, impl.ErrFormat)
			for other := range l.Entries {
				if other != k {
					e, c := impl.EntryAt(wrong, other)
					is(t, "another entry", []any{e, c}, []any{impl.ChainEntry{}, int64(impl.OK)})
				}
			}
			got, c := impl.SetEntry(wrong, k, impl.ChainEntry{})
			diskIs(t, "empty instead", got, c, disk)
			got, c = impl.SetEntry(wrong, k, impl.ChainEntry{Name: "AB", First: 3, Length: 258, Deleted: true})
			diskIs(t, "deleted instead", got, c, withEntry(disk, int(k), "AB"+zeros(6)+"\x03\x01\x02\x02"))
		}
	}
}

// invalidEntries are entries that are not valid.
func invalidEntries() []impl.ChainEntry {
	list := []impl.ChainEntry{
		{Name: "A"}, {First: 1}, {Length: 1}, {Used: true}, {Deleted: true}, {Used: true, Deleted: true}, {Name: "A", Used: true, Deleted: true}, {Name: "A", First: 4, Length: 5}, {First: 4, Length: 5, Used: true}, {First: -1}, {Length: -1},
	}
	for _, e := range []impl.ChainEntry{{Name: "A", First: 4, Length: 5, Used: true}, {Name: "ABCDEFGH", Deleted: true}} {
		for _, name := range []string{"", "a", "0A", "_", "A B", "A ", "A\x00", "ABCDEFGHI", "A-", "\u00c4", strings.Repeat("A", 300)} {
			wrong := e
			wrong.Name = name
			list = append(list, wrong)
		}
		for _, n := range noBytes() {
			wrong := e
			wrong.First = n
			list = append(list, wrong)
		}
		for _, n := range []int64{-1, 513, 514, 1024, 65535, 65536, 65541, 1 << 32, math.MinInt64, math.MaxInt64} {
			wrong := e
			wrong.Length = n
			list = append(list, wrong)
		}
	}
	return list
}

func TestP17InvalidEntries(t *testing.T) {
	disk := chainsWith(t, 32, 16, "A 40")
	malformed := withEntry(disk, 1, strings.Repeat("x", 12))
	for _, e := range invalidEntries() {
		for _, k := range []int64{0, 1, 3, 4, -1, math.MaxInt64} {
			got, c := impl.SetEntry(disk, k, e)
			noDisk(t, "no entry, wherever "+brief(e), got, c, impl.ErrInvalid)
			got, c = impl.SetEntry(malformed, k, e)
			noDisk(t, "no entry, over a malformed one", got, c, impl.ErrInvalid)
		}
	}
}

// chainIs requires a chain and OK.
func chainIs(t *testing.T, what string, disk []string, first int64, want ...int64) {
	t.Helper()
	got, c := impl.ChainFrom(disk, first)
	code(t, what, c, impl.OK)
	listIs(t, what, got, want...)
}

// noChain requires an error and no chain.
func noChain(t *testing.T, what string, disk []string, first, want int64) {
	t.Helper()
	got, c := impl.ChainFrom(disk, first)
	code(t, what, c, want)
	listIs(t, what, got)
}

func TestP17Chains(t *testing.T) {
	disk := withLinks(newChains(t, 16, 16), [2]int{4, 255}, [2]int{5, 6}, [2]int{6, 15}, [2]int{15, 4}, [2]int{7, 8}, [2]int{8, 9}, [2]int{9, 7}, [2]int{10, 10}, [2]int{11, 9})
	chainIs(t, "nothing", disk, 0)
	chainIs(t, "one block", disk, 4, 4)
	chainIs(t, "to a block before", disk, 15, 15, 4)
	chainIs(t, "four blocks", disk, 5, 5, 6, 15, 4)
	noChain(t, "back to the first block", disk, 7, impl.ErrState)
	noChain(t, "back to a later block", disk, 11, impl.ErrState)
	noChain(t, "back to itself", disk, 10, impl.ErrState)
	noChain(t, "a free block", disk, 12, impl.ErrDamaged)
	for _, first := range append(noBlocks(), 1, 2, 3, 16, 17, 252, 253, 254, 255, 256, 260) {
		noChain(t, "no data block "+strconv.FormatInt(first, 10), disk, first, impl.ErrRange)
	}
	for _, link := range []int{0, 253, 254} {
		noChain(t, "a bad link at once", withLinks(disk, [2]int{4, link}), 4, impl.ErrDamaged)
		noChain(t, "a bad link later", withLinks(disk, [2]int{4, link}), 5, impl.ErrDamaged)
		noChain(t, "no data block with a bad link", withLinks(disk, [2]int{3, link}), 3, impl.ErrRange)
		noChain(t, "to no data block with a bad link", withLinks(disk, [2]int{3, link}, [2]int{4, 3}), 5, impl.ErrRange)
		noChain(t, "a bad link instead of a loop", withLinks(disk, [2]int{9, link}), 7, impl.ErrDamaged)
	}
	for _, link := range []int{1, 2, 3, 16, 17, 100, 127, 128, 129, 252} {
		noChain(t, "to no data block", withLinks(disk, [2]int{4, link}), 4, impl.ErrRange)
		noChain(t, "to no data block later", withLinks(disk, [2]int{4, link}), 5, impl.ErrRange)
		noChain(t, "to no data block instead of a loop", withLinks(disk, [2]int{9, link}), 7, impl.ErrRange)
	}
	for block := range 4 {
		chainIs(t, "links of other blocks", withLinks(disk, [2]int{block, 5}), 5, 5, 6, 15, 4)
	}
	noChain(t, "to block 0", withLinks(disk, [2]int{4, 0}, [2]int{0, 255}), 4, impl.ErrDamaged)
	noChain(t, "to a block of the table", withLinks(disk, [2]int{4, 1}, [2]int{1, 255}), 4, impl.ErrRange)
}

// All data blocks of all disks form a chain.
func TestP17LongestChains(t *testing.T) {
	for _, l := range chainShapes() {
		disk, blocks := newChains(t, l.Blocks, l.Size), upTo(int(l.Blocks))[l.Data:]
		slices.Reverse(blocks)
		for i, block := range blocks {
			link := 255
			if i+1 < len(blocks) {
				link = int(blocks[i+1])
			}
			disk = withLinks(disk, [2]int{int(block), link})
		}
		chainIs(t, "all of them", disk, l.Blocks-1, blocks...)
		loop := withLinks(disk, [2]int{int(l.Data), int(l.Blocks) - 1})
		noChain(t, "in a circle", loop, l.Data, impl.ErrState)
		noChain(t, "out of the data blocks", withLinks(disk, [2]int{int(l.Data), int(l.Data) - 1}), l.Blocks-1, impl.ErrRange)
		noChain(t, "out of the disk", withLinks(disk, [2]int{int(l.Data), int(l.Blocks)}), l.Blocks-1, impl.ErrRange)
	}
}

func TestP17Lists(t *testing.T) {
	used := func(name string) string { return (name + zeros(8))[:8] + "\x00\x00\x00\x01" }
	gone := func(name string) string { return (name + zeros(8))[:8] + "\x00\x00\x00\x02" }
	for _, r := range []struct {
		entries []string
		want    []string
	}{
		{nil, nil},
		{[]string{used("B"), used("A")}, []string{"A", "B"}},
		{[]string{zeros(12), used("Z"), zeros(12), used("A")}, []string{"A", "Z"}},
		{[]string{gone("A"), used("C"), gone("B")}, []string{"C"}},
		{[]string{gone("A"), used("A")}, []string{"A"}},
		{[]string{used("A"), used("A"), used("A"), used("B")}, []string{"A", "A", "A", "B"}},
		{[]string{used("AB"), used("A_"), used("A0"), used("A")}, []string{"A", "A0", "AB", "A_"}},
		{[]string{"A" + zeros(7) + "\xff\x02\x00\x01"}, []string{"A"}},
	} {
		disk := newChains(t, 32, 8)
		for k, bytes := range r.entries {
			disk = withEntry(disk, k, bytes)
		}
		names, c := impl.ListChains(disk)
		namesAre(t, "names "+brief(r.entries), names, c, r.want...)
		for k := range 4 {
			names, c := impl.ListChains(withEntry(disk, k, zeros(10)+"\x01\x00"))
			noDisk(t, "a malformed entry", names, c, impl.ErrFormat)
		}
	}
}

// reads requires the contents of a file.
func reads(t *testing.T, what string, disk []string, name, want string) {
	t.Helper()
	got, c := impl.ReadChain(disk, name)
	textIs(t, what, got, c, want, impl.OK)
}

// noFile requires that neither ReadChain nor DeleteChain nor WriteChain do anything with a file.
func noFile(t *testing.T, what string, disk []string, name string, want int64) {
	t.Helper()
	got, c := impl.ReadChain(disk, name)
	textIs(t, what+": read", got, c, "", want)
	list, c := impl.DeleteChain(disk, name)
	noDisk(t, what+": delete", list, c, want)
	if want != impl.ErrNotFound {
		list, c = impl.WriteChain(disk, impl.File{Name: name, Data: "x"})
		noDisk(t, what+": write", list, c, want)
	}
}

func TestP17ReadingByHand(t *testing.T) {
	disk := newChains(t, 32, 8)
	x := plainChainsOf(disk)
	is(t, "layout", []int{x.entries, x.dir, x.data}, []int{4, 5, 11})
	disk = patched(disk, 11*8, "AAAAAAAABBBBBBBBCCCCCCCCDDDDDDDD")
	disk = withLinks(disk, [2]int{14, 11}, [2]int{11, 12}, [2]int{12, 255}, [2]int{13, 255})
	entry := func(first, length int) string {
		return "A" + zeros(7) + string([]byte{byte(first), byte(length / 256), byte(length % 256), 1})
	}
	reads(t, "three blocks", withEntry(disk, 0, entry(14, 24)), "A", "DDDDDDDDAAAAAAAABBBBBBBB")
	reads(t, "one byte of the last one", withEntry(disk, 0, entry(14, 17)), "A", "DDDDDDDDAAAAAAAAB")
	reads(t, "in a later entry", withEntry(disk, 3, entry(11, 15)), "A", "AAAAAAAABBBBBBB")
	reads(t, "a whole block", withEntry(disk, 2, entry(13, 8)), "A", "CCCCCCCC")
	reads(t, "a byte", withEntry(disk, 1, entry(13, 1)), "A", "C")
	reads(t, "nothing", withEntry(disk, 1, entry(0, 0)), "A", "")
	for _, r := range []struct{ first, length int }{{14, 16}, {14, 25}, {14, 0}, {14, 1}, {14, 512}, {13, 0}, {13, 9}, {13, 16}, {12, 9}, {12, 0}, {11, 8}, {11, 17}, {0, 1}, {0, 8}, {0, 512}} {
		wrong := withEntry(disk, 0, entry(r.first, r.length))
		got, c := impl.ReadChain(wrong, "A")
		textIs(t, "not as many blocks as bytes need", got, c, "", impl.ErrDamaged)
		after, c := impl.DeleteChain(wrong, "A")
		want, wantCode := plainChainsOf(wrong).remove("A")
		is(t, "it exists", wantCode, int64(impl.OK))
		diskIs(t, "it can be deleted", after, c, want)
		after, c = impl.WriteChain(wrong, impl.File{Name: "A", Data: "12345678"})
		want, _ = plainChainsOf(wrong).write("A", "12345678")
		diskIs(t, "and written", after, c, want)
	}
	for _, first := range []int{1, 10, 32, 128, 253, 255} {
		noFile(t, "no data block", withEntry(disk, 0, entry(first, 8)), "A", impl.ErrRange)
	}
	noFile(t, "a free block", withEntry(disk, 0, entry(15, 8)), "A", impl.ErrDamaged)
	noFile(t, "a loop", withEntry(withLinks(disk, [2]int{12, 14}), 0, entry(14, 24)), "A", impl.ErrState)
}

func TestP17NoNames(t *testing.T) {
	disk := chainsWith(t, 32, 8, "A 20")
	for _, name := range []string{"", "a", "0", "_", "A ", "A\x00", "ABCDEFGHI", "A/B", "\xff", strings.Repeat("A", 1000)} {
		noFile(t, "no name "+brief(name), disk, name, impl.ErrInvalid)
		noFile(t, "no name, malformed entries", withEntry(disk, 0, strings.Repeat("x", 12)), name, impl.ErrInvalid)
	}
	for _, name := range []string{"B", "AA", "A0", "ABCDEFGH"} {
		noFile(t, "no such file", disk, name, impl.ErrNotFound)
	}
	gone, _ := impl.DeleteChain(disk, "A")
	noFile(t, "a deleted file", gone, "A", impl.ErrNotFound)
}

// A malformed entry matters before the entry of a name, and everywhere if there is none.
func TestP17NamesAndMalformedEntries(t *testing.T) {
	disk := chainsWith(t, 32, 8, "A 9", "B 9", "C 9", "D 9")
	for k, name := range []string{"A", "B", "C", "D"} {
		for wrong := range 4 {
			malformed := withEntry(disk, wrong, strings.Repeat("x", 12))
			switch {
			case wrong <= k:
				noFile(t, "malformed before it, or itself", malformed, name, impl.ErrFormat)
			default:
				reads(t, "malformed behind it", malformed, name, someData(name, 9))
				want, _ := plainChainsOf(malformed).write(name, "12345678")
				got, c := impl.WriteChain(malformed, impl.File{Name: name, Data: "12345678"})
				diskIs(t, "written", got, c, want)
				want, _ = plainChainsOf(malformed).remove(name)
				got, c = impl.DeleteChain(malformed, name)
				diskIs(t, "deleted", got, c, want)
			}
			noFile(t, "no such name", malformed, "E", impl.ErrFormat)
			got, c := impl.WriteChain(malformed, impl.File{Name: "E"})
			noDisk(t, "no new file", got, c, impl.ErrFormat)
		}
	}
	empty := withEntry(newChains(t, 32, 8), 3, strings.Repeat("x", 12))
	got, c := impl.WriteChain(empty, impl.File{Name: "A"})
	noDisk(t, "even if an empty entry comes first", got, c, impl.ErrFormat)
}

// Of several used entries with a name, the first one is that of the name.
func TestP17EntriesOfTheSameName(t *testing.T) {
	disk := chainsWith(t, 32, 8, "A 9", "B 7", "C 0", "D 17")
	twice := withEntry(disk, 1, string(append([]byte("A"), plainChainsOf(disk).bytesOf(1)[1:]...)))
	names, c := impl.ListChains(twice)
	namesAre(t, "twice", names, c, "A", "A", "C", "D")
	reads(t, "the first one", twice, "A", someData("A", 9))
	once, c := impl.DeleteChain(twice, "A")
	want, _ := plainChainsOf(twice).remove("A")
	diskIs(t, "deleted", once, c, want)
	reads(t, "then the second one", once, "A", someData("B", 7))
	never, c := impl.DeleteChain(once, "A")
	code(t, "deleted again", c, impl.OK)
	noFile(t, "then none", never, "A", impl.ErrNotFound)
	after, c := impl.WriteChain(twice, impl.File{Name: "A"})
	code(t, "written", c, impl.OK)
	reads(t, "the first one is written", after, "A", "")
	after, _ = impl.DeleteChain(after, "A")
	reads(t, "the second one is not", after, "A", someData("B", 7))
	damaged := withEntry(twice, 0, "A"+zeros(7)+"\x01\x00\x09\x01")
	noFile(t, "the first one even if it is damaged", damaged, "A", impl.ErrRange)
}

// Files of all lengths are written, on empty disks of all shapes.
func TestP17LengthsOfFiles(t *testing.T) {
	for _, l := range chainShapes() {
		disk, room := newChains(t, l.Blocks, l.Size), (l.Blocks-l.Data)*l.Size
		for _, count := range []int64{0, 1, l.Size - 1, l.Size, l.Size + 1, 2 * l.Size, 255, 256, 257, room - 1, room, room + 1, 511, 512, 513, 514, 1024} {
			data := someData("A", int(count))
			got, c := impl.WriteChain(disk, impl.File{Name: "A", Data: data})
			switch {
			case count > 512:
				noDisk(t, "too many bytes", got, c, impl.ErrInvalid)
			case count > room:
				noDisk(t, "too few blocks", got, c, impl.ErrFull)
			default:
				want, _ := plainChainsOf(disk).write("A", data)
				diskIs(t, "written", got, c, want)
				reads(t, "read", got, "A", data)
				first := min(count, 1) * l.Data
				chainIs(t, "in order", got, first, upTo(int(l.Blocks))[l.Data:][:up(int(count), int(l.Size))]...)
				e, c := impl.EntryAt(got, 0)
				is(t, "entry", []any{e, c}, []any{impl.ChainEntry{Name: "A", First: first, Length: count, Used: true}, int64(impl.OK)})
			}
		}
	}
}

// A file takes the free blocks with the lowest numbers, and those that are bad or reserved never.
func TestP17PlacesOfFiles(t *testing.T) {
	disk := withLinks(newChains(t, 16, 16), [2]int{4, 254}, [2]int{6, 253}, [2]int{7, 255}, [2]int{8, 7}, [2]int{10, 200}, [2]int{15, 254})
	free, c := impl.FreeChains(disk)
	code(t, "free", c, impl.OK)
	listIs(t, "free", free, 5, 9, 11, 12, 13, 14)
	for count := range 7 {
		got, c := impl.WriteChain(disk, impl.File{Name: "A", Data: someData("A", 16*count)})
		code(t, "written", c, impl.OK)
		first := int64(5)
		if count == 0 {
			first = 0
		}
		chainIs(t, "chain", got, first, free[:count]...)
		left, _ := impl.FreeChains(got)
		listIs(t, "left", left, free[count:]...)
		reads(t, "read", got, "A", someData("A", 16*count))
	}
	got, c := impl.WriteChain(disk, impl.File{Name: "A", Data: someData("A", 97)})
	noDisk(t, "one too few", got, c, impl.ErrFull)
}

// A file is written over with as many, fewer and more blocks, between other files.
func TestP17WritingOver(t *testing.T) {
	disk := chainsWith(t, 32, 8, "A 17", "B 40", "C 3")
	chainIs(t, "A", disk, 11, 11, 12, 13)
	chainIs(t, "B", disk, 14, 14, 15, 16, 17, 18)
	chainIs(t, "C", disk, 19, 19)
	for _, r := range []struct {
		file string
		want []int64
	}{
		{"B 40", []int64{14, 15, 16, 17, 18}}, {"B 39", []int64{14, 15, 16, 17, 18}}, {"B 33", []int64{14, 15, 16, 17, 18}}, {"B 32", []int64{14, 15, 16, 17}}, {"B 1", []int64{14}}, {"B 0", nil}, {"B 41", []int64{14, 15, 16, 17, 18, 20}}, {"B 64", []int64{14, 15, 16, 17, 18, 20, 21, 22}}, {"B 136", append([]int64{14, 15, 16, 17, 18}, upTo(32)[20:]...)},
	} {
		got := wroteChain(t, disk, r.file)
		first := int64(14)
		if r.want == nil {
			first = 0
		}
		chainIs(t, r.file, got, first, r.want...)
		e, _ := impl.EntryAt(got, 1)
		f := fileOf(r.file)
		is(t, "its entry", e, impl.ChainEntry{Name: "B", First: first, Length: int64(len(f.Data)), Used: true})
		for _, other := range []impl.File{f, fileOf("A 17"), fileOf("C 3")} {
			reads(t, r.file, got, other.Name, other.Data)
		}
		want, _ := plainChainsOf(disk).write("B", f.Data)
		diskIs(t, r.file, got, impl.OK, want)
	}
	for _, name := range []string{"B", "D"} {
		got, c := impl.WriteChain(disk, impl.File{Name: name, Data: someData("B", 137)})
		noDisk(t, "too few blocks, even with its own", got, c, impl.ErrFull)
	}
	got := wroteChain(t, disk, "D 96")
	left, _ := impl.FreeChains(got)
	listIs(t, "all blocks are taken", left)
	got = wroteChain(t, got, "A 24")
	reads(t, "its own blocks again", got, "A", someData("A", 24))
	list, c := impl.WriteChain(got, impl.File{Name: "A", Data: someData("A", 25)})
	noDisk(t, "a byte more", list, c, impl.ErrFull)
	got = wroteChain(t, got, "A 0")
	reads(t, "nothing", got, "A", "")
}

// A new file gets the first empty entry, or the first deleted one if there is none.
func TestP17EntriesForFiles(t *testing.T) {
	place := func(disk []string, name string) int64 {
		for k := range int64(4) {
			if e, c := impl.EntryAt(disk, k); c == impl.OK && e.Used && e.Name == name {
				return k
			}
		}
		return -1
	}
	disk := chainsWith(t, 32, 8, "A 9", "B 9", "C 9")
	gone, _ := impl.DeleteChain(disk, "A")
	is(t, "an empty entry before a deleted one", place(wroteChain(t, gone, "N 1"), "N"), int64(3))
	full := wroteChain(t, disk, "D 9")
	got, c := impl.WriteChain(full, impl.File{Name: "N"})
	noDisk(t, "no entry, though no block is needed", got, c, impl.ErrFull)
	got, c = impl.WriteChain(full, impl.File{Name: "N", Data: someData("N", 512)})
	noDisk(t, "neither entry nor blocks", got, c, impl.ErrFull)
	for k, name := range []string{"A", "B", "C", "D"} {
		gone, _ := impl.DeleteChain(full, name)
		is(t, "the deleted one", place(wroteChain(t, gone, "N 20"), "N"), int64(k))
		is(t, "also for the old name", place(wroteChain(t, gone, name+" 20"), name), int64(k))
		is(t, "over another file", place(wroteChain(t, full, name+" 20"), name), int64(k))
	}
	both, _ := impl.DeleteChain(full, "D")
	both, _ = impl.DeleteChain(both, "B")
	is(t, "the first deleted one", place(wroteChain(t, both, "D 3"), "D"), int64(1))
	empty, _ := impl.SetEntry(both, 2, impl.ChainEntry{})
	is(t, "an empty one between them", place(wroteChain(t, empty, "B 3"), "B"), int64(2))
}

// Deleting sets links and a byte of the entry, and nothing else.
func TestP17Deleting(t *testing.T) {
	disk := chainsWith(t, 32, 8, "A 17", "B 40", "C 3", "D 0")
	for k, r := range []struct {
		name   string
		blocks []int64
	}{{"A", []int64{11, 12, 13}}, {"B", []int64{14, 15, 16, 17, 18}}, {"C", []int64{19}}, {"D", nil}} {
		want := patched(disk, 5*8+12*k+11, "\x02")
		for _, block := range r.blocks {
			want = withLinks(want, [2]int{int(block), 0})
		}
		got, c := impl.DeleteChain(disk, r.name)
		diskIs(t, "deleted "+r.name, got, c, want)
		before, _ := impl.FreeChains(disk)
		free, _ := impl.FreeChains(got)
		all := append(slices.Clone(before), r.blocks...)
		slices.Sort(all)
		listIs(t, "exactly its blocks are free", free, all...)
		e, _ := impl.EntryAt(disk, int64(k))
		e.Used, e.Deleted = false, true
		after, _ := impl.EntryAt(got, int64(k))
		is(t, "its entry stays", after, e)
		noFile(t, "it is gone", got, r.name, impl.ErrNotFound)
	}
}

func TestP17FreeBlocks(t *testing.T) {
	for _, l := range chainShapes() {
		disk := newChains(t, l.Blocks, l.Size)
		for link := 1; link < 256; link++ {
			block := int(l.Data) + link%int(l.Blocks-l.Data)
			free, c := impl.FreeChains(withLinks(disk, [2]int{block, link}))
			code(t, "free", c, impl.OK)
			listIs(t, "all but one", free, slices.DeleteFunc(upTo(int(l.Blocks))[l.Data:], func(n int64) bool { return n == int64(block) })...)
		}
		for block := range int(l.Data) {
			free, _ := impl.FreeChains(withLinks(disk, [2]int{block, 0}))
			listIs(t, "other blocks are never free", free, upTo(int(l.Blocks))[l.Data:]...)
		}
	}
}

// anyChains returns a disk with files, of which some may be damaged.
func (s *source) anyChains(t *testing.T, damages int64) []string {
	shapes := chainShapes()
	l := shapes[s.below(int64(len(shapes)))]
	disk := newChains(t, l.Blocks, l.Size)
	x := plainChainsOf(disk)
	for at := x.size + x.blocks; at < x.dir*x.size; at++ {
		x.all[at] = byte(s.below(256))
	}
	for at := x.dir*x.size + 12*x.entries; at < len(x.all); at++ {
		x.all[at] = byte(s.below(256))
	}
	disk = x.disk()
	for range s.below(2 * l.Entries) {
		name := string(rune('A' + s.below(l.Entries+1)))
		if after, c := impl.WriteChain(disk, impl.File{Name: name, Data: s.bytes(int(s.below(200)))}); c == impl.OK {
			disk = after
		}
		if after, c := impl.DeleteChain(disk, string(rune('A'+s.below(4*l.Entries)))); c == impl.OK {
			disk = after
		}
	}
	for range damages {
		disk = s.damagedChains(disk)
	}
	return disk
}

// damagedChains returns a disk with another link, or another byte of an entry, or another entry.
func (s *source) damagedChains(disk []string) []string {
	x := plainChainsOf(disk)
	k, block := int(s.below(int64(x.entries))), x.data+int(s.below(int64(x.blocks-x.data)))
	data := byte(x.data + int(s.below(int64(x.blocks-x.data))))
	switch s.below(6) {
	case 0:
		x.bytesOf(k)[s.below(12)] = byte(s.below(256))
	case 1:
		x.bytesOf(k)[8] = data
	case 2:
		x.bytesOf(k)[10] = byte(s.below(256))
	case 3:
		copy(x.bytesOf(k), x.bytesOf(int(s.below(int64(x.entries)))))
	default:
		x.all[x.size+block] = []byte{0, 253, 254, 255, data, data, byte(s.below(256))}[s.below(7)]
	}
	return x.disk()
}

// chainsAre compares all functions with those that follow the words of the document.
func chainsAre(t *testing.T, disk []string, from *source) {
	t.Helper()
	x := plainChainsOf(disk)
	names, c := impl.ListChains(disk)
	wantNames, wantCode := x.names()
	is(t, "names", fmt.Sprint(names, c), fmt.Sprint(wantNames, wantCode))
	free, c := impl.FreeChains(disk)
	is(t, "free", fmt.Sprint(free, c), fmt.Sprint(x.free(), impl.OK))
	for first := int64(-1); first < 257; first++ {
		got, c := impl.ChainFrom(disk, first)
		want, wantCode := x.chain(first)
		is(t, "chain", fmt.Sprint(got, c), fmt.Sprint(want, wantCode))
	}
	for k := range x.entries {
		e, c := impl.EntryAt(disk, int64(k))
		want, ok := x.entry(k)
		is(t, "entry", []any{e, c == impl.OK}, []any{want, ok})
	}
	for i := range 5 {
		name := string(rune('A' + from.below(int64(x.entries)+1)))
		data, c := impl.ReadChain(disk, name)
		want, wantCode := x.read(name)
		textIs(t, "read", data, c, want, wantCode)
		gone, c := impl.DeleteChain(disk, name)
		wantDisk, wantCode := plainChainsOf(disk).remove(name)
		is(t, "delete", fmt.Sprintf("%q %d", gone, c), fmt.Sprintf("%q %d", wantDisk, wantCode))
		text := from.bytes(int(from.below([]int64{1, 20, 100, 300, 513}[i])))
		after, c := impl.WriteChain(disk, impl.File{Name: name, Data: text})
		wantDisk, wantCode = plainChainsOf(disk).write(name, text)
		is(t, "write", fmt.Sprintf("%q %d", after, c), fmt.Sprintf("%q %d", wantDisk, wantCode))
	}
}

func TestP17AnyDisks(t *testing.T) {
	from := source(300)
	for i := range 500 {
		disk := from.anyChains(t, int64(i%5))
		before := slices.Clone(disk)
		chainsAre(t, disk, &from)
		is(t, "argument", disk, before)
	}
}

// Files are written, written over and deleted, and each time all of them are there, and all other blocks are free.
func TestP17ManyFiles(t *testing.T) {
	from := source(301)
	for range 60 {
		disk := from.anyChains(t, 0)
		x := plainChainsOf(disk)
		files := map[string]string{}
		names, _ := impl.ListChains(disk)
		for _, name := range names {
			files[name], _ = impl.ReadChain(disk, name)
		}
		for range 40 {
			name := string(rune('A' + from.below(int64(x.entries)+2)))
			data := from.bytes(int(from.below(90)))
			after, c := impl.WriteChain(disk, impl.File{Name: name, Data: data})
			if from.below(3) == 0 {
				after, c = impl.DeleteChain(disk, name)
				is(t, "deleted if it exists", c == impl.OK, slices.Contains(names, name))
				data = "deleted"
			}
			if c != impl.OK {
				continue
			}
			disk, files[name] = after, data
			if data == "deleted" {
				delete(files, name)
			}
			names = allChainsAre(t, disk, files)
		}
	}
}

// allChainsAre requires that a disk has exactly some files, whose blocks are not free and those of one file only, and returns their names.
func allChainsAre(t *testing.T, disk []string, files map[string]string) []string {
	t.Helper()
	want, taken := []string{}, 0
	for name, data := range files {
		want = append(want, name)
		taken += up(len(data), len(disk[0]))
		reads(t, "file", disk, name, data)
	}
	slices.Sort(want)
	names, c := impl.ListChains(disk)
	namesAre(t, "names", names, c, want...)
	free, _ := impl.FreeChains(disk)
	x := plainChainsOf(disk)
	is(t, "as many blocks as needed", len(free)+taken, x.blocks-x.data)
	return names
}
