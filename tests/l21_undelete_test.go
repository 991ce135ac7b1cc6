package tests

import (
	"fmt"
	"math"
	"slices"
	"strings"
	"testing"

	"loop.example/g00899/impl"
)

// gone follows the words of the document for GoneChains.
func (x plainChains) gone() []int64 {
	list := []int64{}
	for k := range x.entries {
		if e, ok := x.entry(k); ok && e.Deleted {
			list = append(list, int64(k))
		}
	}
	return list
}

// goneBlocks follows the words of the document for GoneBlocks: each block is looked for behind the one before.
func (x plainChains) goneBlocks(k int64) ([]int64, int64) {
	if k < 0 || k >= int64(x.entries) {
		return nil, impl.ErrRange
	}
	e, ok := x.entry(int(k))
	if !ok || !e.Deleted {
		return nil, impl.ErrNotFound
	}
	list := []int64{}
	for at := int(e.First); len(list) < up(int(e.Length), x.size); at++ {
		if !x.isData(at) {
			return nil, impl.ErrDamaged
		}
		if x.link(at) == 0 {
			list = append(list, int64(at))
		} else if len(list) == 0 {
			return nil, impl.ErrDamaged
		}
	}
	return list, impl.OK
}

func (x plainChains) undelete(k int64) ([]string, int64) {
	blocks, c := x.goneBlocks(k)
	if c == impl.ErrRange || c == impl.ErrNotFound {
		return nil, c
	}
	e, _ := x.entry(int(k))
	for other := range x.entries {
		if file, isUsed := x.used(other); isUsed && file.Name == e.Name {
			return nil, impl.ErrExists
		}
	}
	if c != impl.OK {
		return nil, c
	}
	for i, block := range blocks {
		x.setLink(block, 255)
		if i > 0 {
			x.setLink(blocks[i-1], int(block))
		}
	}
	x.bytesOf(int(k))[11] = 1
	return x.disk(), impl.OK
}

// goneChainsAre compares all functions with those that follow the words of the document.
func goneChainsAre(t *testing.T, disk []string) {
	t.Helper()
	x := plainChainsOf(disk)
	list, c := impl.GoneChains(disk)
	code(t, "gone", c, impl.OK)
	listIs(t, "gone", list, x.gone()...)
	for k := int64(-1); k <= int64(x.entries); k++ {
		blocks, c := impl.GoneBlocks(disk, k)
		want, wantCode := x.goneBlocks(k)
		is(t, "gone blocks", fmt.Sprint(blocks, c), fmt.Sprint(want, wantCode))
		after, c := impl.UndeleteChain(disk, k)
		wantDisk, wantCode := plainChainsOf(disk).undelete(k)
		is(t, "undelete", fmt.Sprintf("%q %d", after, c), fmt.Sprintf("%q %d", wantDisk, wantCode))
	}
}

// goneNames follows the words of the document for GoneExtents.
func (x plainExtents) goneNames() []string {
	seen := map[string]bool{}
	for _, e := range x.goneEntries("") {
		seen[e.Name] = true
	}
	list := []string{}
	for name := range seen {
		list = append(list, name)
	}
	slices.Sort(list)
	return list
}

// goneEntries returns the deleted entries with a name, or all of them, by their numbers.
func (x plainExtents) goneEntries(name string) map[int]impl.ExtentEntry {
	list := map[int]impl.ExtentEntry{}
	for k := range x.entries {
		if e, ok := x.entry(k); ok && e.State == 229 && (name == "" || e.Name == name) {
			list[k] = e
		}
	}
	return list
}

func (x plainExtents) undelete(name string) ([]string, int64) {
	entries := x.goneEntries(name)
	if name == "" || len(entries) == 0 {
		return nil, impl.ErrNotFound
	}
	if file, _ := x.file(name); len(file) > 0 {
		return nil, impl.ErrExists
	}
	numbers, blocks, free := map[int64]bool{}, map[int64]bool{}, x.free()
	isWrong := false
	for k, e := range entries {
		for _, block := range e.Blocks {
			isWrong = isWrong || blocks[block] || !slices.Contains(free, block)
			blocks[block] = true
		}
		numbers[e.Number] = true
		x.bytesOf(k)[0] = 1
	}
	if len(numbers) < len(entries) {
		return nil, impl.ErrAmbiguous
	}
	// Extents that are complete can be read.
	if _, c := x.read(name); isWrong || c != impl.OK {
		return nil, impl.ErrDamaged
	}
	return x.disk(), impl.OK
}

func goneExtentsAre(t *testing.T, disk []string) {
	t.Helper()
	x := plainExtentsOf(disk)
	names, c := impl.GoneExtents(disk)
	namesAre(t, "gone", names, c, x.goneNames()...)
	for _, name := range append(x.names(), append(x.goneNames(), "A", "B", "X", "", "a")...) {
		after, c := impl.UndeleteExtents(disk, name)
		want, wantCode := plainExtentsOf(disk).undelete(name)
		is(t, "undelete "+name, fmt.Sprintf("%q %d", after, c), fmt.Sprintf("%q %d", want, wantCode))
	}
}

// listIsGone requires the deleted entries of a disk with chains.
func listIsGone(t *testing.T, what string, disk []string, want ...int64) {
	t.Helper()
	list, c := impl.GoneChains(disk)
	code(t, what, c, impl.OK)
	listIs(t, what, list, want...)
}

// comesBack requires that the file of an entry gets these blocks, and that nothing else changes.
func comesBack(t *testing.T, what string, disk []string, k int64, want ...int64) {
	t.Helper()
	blocks, c := impl.GoneBlocks(disk, k)
	code(t, what, c, impl.OK)
	listIs(t, what, blocks, want...)
	x := plainChainsOf(disk)
	for i, block := range want {
		x.setLink(block, 255)
		if i > 0 {
			x.setLink(want[i-1], int(block))
		}
	}
	x.bytesOf(int(k))[11] = 1
	after, c := impl.UndeleteChain(disk, k)
	diskIs(t, what, after, c, x.disk())
	goneChainsAre(t, disk)
}

// staysGone requires the errors of both functions.
func staysGone(t *testing.T, what string, disk []string, k, wantBlocks, wantUndeleted int64) {
	t.Helper()
	blocks, c := impl.GoneBlocks(disk, k)
	code(t, what+": blocks", c, wantBlocks)
	is(t, what+": no blocks", len(blocks) == 0, wantBlocks != impl.OK)
	after, c := impl.UndeleteChain(disk, k)
	noDisk(t, what, after, c, wantUndeleted)
}

func TestP22Constants(t *testing.T) {
	is(t, "limit", int64(impl.MaxCarve), int64(32))
}

func TestP22NoDisksWithChains(t *testing.T) {
	start := func(blocks, size int) string { return chainStart(blocks, min(16, blocks/8), size) }
	for _, disk := range noDisks(start) {
		for _, k := range []int64{-1, 0, 16, math.MaxInt64} {
			codesAre(t, "no disk "+brief(disk), impl.ErrInvalid, stage12Chains(disk, k)...)
		}
	}
	for _, l := range chainShapes() {
		disk := chainsWith(t, l.Blocks, l.Size, "A 5")
		disk, _ = impl.DeleteChain(disk, "A")
		for i, s := range otherHeaders(int(l.Blocks), int(l.Entries), int(l.Size)) {
			if i%97 > 0 {
				continue
			}
			disk[0] = s
			for _, k := range []int64{-1, 0, 16, math.MaxInt64} {
				codesAre(t, "no header "+brief(s), impl.ErrFormat, stage12Chains(disk, k)...)
			}
		}
	}
	extents, _ := impl.FormatExtents(16, 16)
	codesAre(t, "extents", impl.ErrFormat, stage12Chains(extents, 0)...)
}

func TestP22GoneChains(t *testing.T) {
	for _, l := range chainShapes() {
		disk := newChains(t, l.Blocks, l.Size)
		listIsGone(t, "no entries", disk)
		for k := range l.Entries {
			disk = withEntry(disk, int(k), entryOf("A 0 0"))
		}
		listIsGone(t, "only files", disk)
		for k := range l.Entries {
			listIsGone(t, "one", withEntry(disk, int(k), entryOf("A 0 0 gone")), k)
		}
		for k := range l.Entries {
			disk = withEntry(disk, int(k), entryOf("A 0 0 gone"))
		}
		listIsGone(t, "all", disk, upTo(int(l.Entries))...)
	}
	for _, r := range []struct {
		entries []string
		want    []int64
	}{
		{[]string{"A 11 5 gone", "?", "B 11 5 gone", "", "C 11 5 gone", "D 0 0", "E 0 0 gone"}, []int64{0, 2, 4, 6}},
		{[]string{"?", "", "A 0 0", "B 200 512 gone", "?", "", "C 0 0", "B 253 1 gone"}, []int64{3, 7}},
		{[]string{"A 0 513 gone", "a 0 0 gone", "AB 0 65535 gone", "A 11 512 gone"}, []int64{3}},
		{[]string{"A 0 0", "A 0 0 gone", "A 0 0 gone"}, []int64{1, 2}},
	} {
		disk := chainsLike(t, "", r.entries...)
		listIsGone(t, "gone "+brief(r.entries), disk, r.want...)
		goneChainsAre(t, disk)
	}
	for _, bytes := range malformedEntries() {
		disk := chainsLike(t, "", "A 11 5 gone", "", "B 11 5 gone")
		listIsGone(t, "malformed "+brief(bytes), withEntry(disk, 1, bytes), 0, 2)
	}
}

func TestP22TheExampleByHand(t *testing.T) {
	disk, _ := impl.FormatChains(16, 16)
	disk, _ = impl.WriteChain(disk, impl.File{Name: "LETTER", Data: "a text of 23 characters"})
	disk, _ = impl.WriteChain(disk, impl.File{Name: "B", Data: "more"})
	before := slices.Clone(disk)
	disk, _ = impl.DeleteChain(disk, "LETTER")
	listIsGone(t, "the first entry", disk, 0)
	blocks, c := impl.GoneBlocks(disk, 0)
	listIs(t, "blocks", append(blocks, c), 4, 5, impl.OK)
	after, c := impl.UndeleteChain(disk, 0)
	diskIs(t, "as before", after, c, before)
	reads(t, "the file", after, "LETTER", "a text of 23 characters")
	reads(t, "the other file", after, "B", "more")
}

func TestP22Entries(t *testing.T) {
	disk := chainsLike(t, "20-E", "A 11 20 gone", "?", "", "D 20 5", "E 0 0", "F 0 513 gone", "G 0 0 gone", "B 30 20 gone")
	for _, r := range []struct{ k, want int64 }{{-1, impl.ErrRange}, {8, impl.ErrRange}, {16, impl.ErrRange}, {math.MinInt64, impl.ErrRange}, {math.MaxInt64, impl.ErrRange}, {1 << 32, impl.ErrRange}, {1, impl.ErrNotFound}, {2, impl.ErrNotFound}, {3, impl.ErrNotFound}, {4, impl.ErrNotFound}, {5, impl.ErrNotFound}} {
		staysGone(t, fmt.Sprint("entry ", r.k), disk, r.k, r.want, r.want)
	}
	comesBack(t, "the first one", disk, 0, 11, 12)
	comesBack(t, "one without contents", disk, 6)
	comesBack(t, "the last one", disk, 7, 30, 31)
	for _, l := range chainShapes() {
		last := l.Entries - 1
		disk := withEntry(newChains(t, l.Blocks, l.Size), int(last), entryOf(fmt.Sprint("A ", l.Data, " 9 gone")))
		for _, k := range []int64{-1, l.Entries, l.Entries + 1} {
			staysGone(t, "no entry", disk, k, impl.ErrRange, impl.ErrRange)
		}
		if last > 0 {
			staysGone(t, "an empty one", disk, 0, impl.ErrNotFound, impl.ErrNotFound)
		}
		comesBack(t, "the last one", disk, last, upTo(int(l.Blocks))[l.Data:][:up(9, int(l.Size))]...)
	}
	for _, bytes := range malformedEntries() {
		staysGone(t, "malformed "+brief(bytes), withEntry(disk, 0, bytes), 0, impl.ErrNotFound, impl.ErrNotFound)
	}
}

func TestP22Blocks(t *testing.T) {
	for _, r := range []struct {
		what, links, entry string
		want               []int64
	}{
		{"one block", "", "A 11 1 gone", []int64{11}},
		{"a whole block", "", "A 11 16 gone", []int64{11}},
		{"a byte more", "", "A 11 17 gone", []int64{11, 12}},
		{"the last block", "", "A 63 16 gone", []int64{63}},
		{"up to the last block", "", "A 60 64 gone", []int64{60, 61, 62, 63}},
		{"blocks before it are free as well", "", "A 40 33 gone", []int64{40, 41, 42}},
		{"the most", "", "A 11 512 gone", upTo(43)[11:]},
		{"the most, at the end", "", "A 32 512 gone", upTo(64)[32:]},
		{"blocks that lie apart", "12-13-E 15-B 16-R 17-17", "A 11 64 gone", []int64{11, 14, 18, 19}},
		{"up to the last one, that lie apart", "50-51-52-53-54-55-56-57-58-59-60-61-62-E", "A 49 32 gone", []int64{49, 63}},
		{"links of other blocks", "10-F 0-F 5-11", "A 11 32 gone", []int64{11, 12}},
		{"no contents", "", "A 0 0 gone", nil},
		{"no contents, with a free First", "", "A 11 0 gone", nil},
		{"no contents, with a used First", "11-12-E", "A 11 0 gone", nil},
		{"no contents, with a First that is no data block", "", "A 10 0 gone", nil},
		{"no contents, with a First behind the last block", "", "A 255 0 gone", nil},
		{"no contents, without a free block", strings.Join(busyRows(11, 64), " "), "A 12 0 gone", nil},
	} {
		comesBack(t, r.what, chainsLike(t, r.links, r.entry), 0, r.want...)
	}
}

// busyRows are links of blocks, of which none is free.
func busyRows(from, to int) []string {
	rows := []string{}
	for block := from; block < to; block++ {
		rows = append(rows, fmt.Sprint(block, "-", []string{"E", "B", "R", "11"}[block%4]))
	}
	return rows
}

func TestP22NoBlocks(t *testing.T) {
	for _, r := range [][3]string{
		{"First 0", "", "A 0 1 gone"},
		{"First 0, and everything is free", "", "A 0 512 gone"},
		{"First in a chain", "11-12-E", "A 11 1 gone"},
		{"First at the end of a chain", "11-12-E", "A 12 1 gone"},
		{"First that is bad", "11-B", "A 11 1 gone"},
		{"First that is reserved", "11-R", "A 11 1 gone"},
		{"First that is no data block", "", "A 10 1 gone"},
		{"First that is no data block, and free", "10-F", "A 10 1 gone"},
		{"First in the table, and free", "1-F", "A 1 1 gone"},
		{"First behind the last block", "", "A 64 1 gone"},
		{"First far behind the last block", "", "A 255 1 gone"},
		{"First that is like a bad link", "", "A 254 16 gone"},
		{"too few by one", "", "A 63 17 gone"},
		{"too few by one, with more blocks", "", "A 60 65 gone"},
		{"too few by one, with most blocks", "", "A 33 512 gone"},
		{"free blocks only before First", "", "A 63 32 gone"},
		{"too few, with one that is used", "62-E", "A 60 64 gone"},
		{"too few, with one that is bad", "63-B", "A 60 64 gone"},
		{"none behind First", strings.Join(busyRows(13, 64), " "), "A 12 32 gone"},
		{"one before and one behind First", strings.Join(busyRows(14, 64), " "), "A 12 48 gone"},
	} {
		disk := chainsLike(t, r[1], r[2])
		staysGone(t, r[0], disk, 0, impl.ErrDamaged, impl.ErrDamaged)
		goneChainsAre(t, disk)
	}
	// One block fewer is there.
	comesBack(t, "one behind First", chainsLike(t, strings.Join(busyRows(14, 64), " "), "A 12 32 gone"), 0, 12, 13)
}

// What was deleted may be in part that of another file now.
func TestP22BlocksThatAreUsedAgain(t *testing.T) {
	disk := chainsWith(t, 64, 16, "A 48", "B 16", "C 16")
	gone, _ := impl.DeleteChain(disk, "A")
	comesBack(t, "A", gone, 0, 11, 12, 13)
	// D takes the first two blocks of A, and another entry.
	taken := wroteChain(t, gone, "D 20")
	staysGone(t, "First is used", taken, 0, impl.ErrDamaged, impl.ErrDamaged)
	// B is in block 14. If it is not there any more, E takes the block 13, too.
	taken, _ = impl.DeleteChain(taken, "B")
	taken = wroteChain(t, taken, "E 10")
	chainIs(t, "E", taken, 13, 13)
	comesBack(t, "B", taken, 1, 14)
	free, _ := impl.DeleteChain(taken, "D")
	comesBack(t, "A, with the third block behind those of E and C", free, 0, 11, 12, 14)
	back, _ := impl.UndeleteChain(free, 0)
	reads(t, "the wrong contents of A", back, "A", someData("D", 20)+zeros(12)+someData("B", 16))
	reads(t, "C", back, "C", someData("C", 16))
	reads(t, "E", back, "E", someData("E", 10))
	staysGone(t, "B has lost its block to A", back, 1, impl.ErrDamaged, impl.ErrDamaged)
	chainProblemsAre(t, "without problems", back, "")
}

func TestP22NamesThatExist(t *testing.T) {
	for _, r := range []struct {
		what          string
		links         string
		entries       []string
		k             int64
		blocks, again int64
	}{
		{"behind it", "20-E", []string{"A 11 5 gone", "A 20 5"}, 0, impl.OK, impl.ErrExists},
		{"before it", "20-E", []string{"A 20 5", "", "A 11 5 gone"}, 2, impl.OK, impl.ErrExists},
		{"twice", "", []string{"A 0 0", "A 11 5 gone", "A 0 0"}, 1, impl.OK, impl.ErrExists},
		{"with problems of its own", "", []string{"A 11 5 gone", "A 200 512"}, 0, impl.OK, impl.ErrExists},
		{"both without contents", "", []string{"ABCDEFGH 11 5 gone", "ABCDEFGH 0 0"}, 0, impl.OK, impl.ErrExists},
		{"and First is not free", "11-E", []string{"A 11 5 gone", "A 11 5"}, 0, impl.ErrDamaged, impl.ErrExists},
		{"and First is 0", "", []string{"A 0 5 gone", "A 0 0"}, 0, impl.ErrDamaged, impl.ErrExists},
		{"and there are too few blocks", "", []string{"A 63 17 gone", "A 0 0"}, 0, impl.ErrDamaged, impl.ErrExists},
		{"and it is malformed itself", "", []string{"A 0 513 gone", "A 0 0"}, 0, impl.ErrNotFound, impl.ErrNotFound},
		{"and it is not deleted", "", []string{"A 0 0", "A 0 0"}, 0, impl.ErrNotFound, impl.ErrNotFound},
		{"and there is no entry", "", []string{"A 0 0", "A 11 5 gone"}, 8, impl.ErrRange, impl.ErrRange},
	} {
		disk := chainsLike(t, r.links, r.entries...)
		blocks, c := impl.GoneBlocks(disk, r.k)
		code(t, r.what+": blocks", c, r.blocks)
		is(t, r.what+": blocks", len(blocks) > 0, r.blocks == impl.OK)
		after, c := impl.UndeleteChain(disk, r.k)
		noDisk(t, r.what, after, c, r.again)
		goneChainsAre(t, disk)
	}
	for _, r := range []struct {
		what    string
		k       int64
		entries []string
	}{
		{"malformed", 0, []string{"A 11 5 gone", "A 0 513"}},
		{"malformed, before it", 1, []string{"A 0 513", "A 11 5 gone"}},
		{"deleted", 0, []string{"A 11 5 gone", "A 11 5 gone"}},
		{"deleted, before it", 1, []string{"A 11 5 gone", "A 11 5 gone"}},
		{"other names", 0, []string{"A 11 5 gone", "AA 0 0", "B 0 0", "A_ 0 0", "A0 0 0"}},
		{"the beginning of its name", 2, []string{"A 0 0", "AB 0 0", "ABC 11 5 gone"}},
	} {
		comesBack(t, r.what, chainsLike(t, "", r.entries...), r.k, 11)
	}
	// One of two comes back, and then the other one has the name of a file.
	disk := chainsLike(t, "", "A 11 5 gone", "A 20 5 gone")
	after, c := impl.UndeleteChain(disk, 1)
	code(t, "the second one", c, impl.OK)
	staysGone(t, "the first one", after, 0, impl.OK, impl.ErrExists)
}

// chainComesBack requires that a file that is written, deleted and undeleted at once is there again, and that all other files and blocks are as before.
func chainComesBack(t *testing.T, disk []string, f impl.File) {
	t.Helper()
	written, c := impl.WriteChain(disk, f)
	if c != impl.OK {
		return
	}
	before, _ := impl.GoneChains(written)
	gone, c := impl.DeleteChain(written, f.Name)
	code(t, "delete", c, impl.OK)
	list, c := impl.GoneChains(gone)
	code(t, "gone", c, impl.OK)
	for _, k := range list {
		if slices.Contains(before, k) {
			continue
		}
		after, c := impl.UndeleteChain(gone, k)
		diskIs(t, "as it was", after, c, written)
		reads(t, "its contents", after, f.Name, f.Data)
		return
	}
	t.Errorf("no entry of %q is deleted", f.Name)
}

func TestP22WrittenDeletedAndUndeletedChains(t *testing.T) {
	for _, l := range chainShapes() {
		for _, length := range []int64{0, 1, l.Size - 1, l.Size, l.Size + 1, 3 * l.Size, 511, 512} {
			chainComesBack(t, newChains(t, l.Blocks, l.Size), impl.File{Name: "A", Data: someData("A", int(length))})
		}
	}
	from := source(500)
	for range 400 {
		disk := from.anyChains(t, 0)
		names, _ := impl.ListChains(disk)
		for _, name := range append(names, "NEW_1") {
			chainComesBack(t, disk, impl.File{Name: name, Data: from.bytes(int(from.below(200)))})
		}
	}
}

func TestP22AnyDisksWithChains(t *testing.T) {
	from := source(501)
	for i := range 1000 {
		disk := from.anyChains(t, int64(i%6))
		if i%3 == 0 {
			disk = from.messedChains(t)
		}
		// More of the files are deleted, whatever their chains are.
		x := plainChainsOf(disk)
		for k := range x.entries {
			if _, isUsed := x.used(k); isUsed && from.below(2) == 0 {
				x.bytesOf(k)[11] = 2
			}
		}
		disk = x.disk()
		before := slices.Clone(disk)
		goneChainsAre(t, disk)
		is(t, "argument", disk, before)
	}
}

// A clean disk stays clean when files are undeleted, as they only take free blocks.
func TestP22UndeletedChainsAreClean(t *testing.T) {
	from := source(502)
	count := 0
	for range 300 {
		disk := from.anyChains(t, 0)
		names, _ := impl.ListChains(disk)
		for len(names) > 1 && from.below(3) > 0 {
			at := int(from.below(int64(len(names))))
			disk, _ = impl.DeleteChain(disk, names[at])
			names = slices.Delete(names, at, at+1)
		}
		for k := int64(0); k < 16; k++ {
			after, c := impl.UndeleteChain(disk, k)
			if c != impl.OK {
				continue
			}
			count++
			chainProblemsAre(t, "clean", after, "")
			for _, name := range names {
				want, _ := impl.ReadChain(disk, name)
				reads(t, "other files", after, name, want)
			}
			l, _ := impl.LayoutOf(disk)
			is(t, "contents of blocks", slices.Equal(after[l.Data:], disk[l.Data:]), true)
			entry, _ := impl.EntryAt(disk, k)
			data, c := impl.ReadChain(after, entry.Name)
			is(t, "as long as it was", []int64{int64(len(data)), c}, []int64{entry.Length, impl.OK})
		}
	}
	is(t, "some files", count > 100, true)
}

// undeletesExtents requires that all entries of a name are used again, and that nothing else changes.
func undeletesExtents(t *testing.T, what string, disk []string, name, want string) []string {
	t.Helper()
	x := plainExtentsOf(disk)
	for k := range x.goneEntries(name) {
		x.bytesOf(k)[0] = 1
	}
	after, c := impl.UndeleteExtents(disk, name)
	diskIs(t, what, after, c, x.disk())
	holds(t, what, after, name, want)
	goneExtentsAre(t, disk)
	return after
}

func extentsStayGone(t *testing.T, what string, disk []string, name string, want int64) {
	t.Helper()
	after, c := impl.UndeleteExtents(disk, name)
	noDisk(t, what, after, c, want)
	goneExtentsAre(t, disk)
}

func TestP22NoDisksWithExtents(t *testing.T) {
	start := func(blocks, size int) string { return extentStart(blocks, size, blocks/4) }
	for _, disk := range noDisks(start) {
		for _, name := range []string{"A", "", "a", "LONG_NAME"} {
			codesAre(t, "no disk "+brief(disk), impl.ErrFormat, stage12Extents(disk, name)...)
		}
	}
	for _, l := range extentShapes() {
		disk := extentsWith(t, l.Blocks, l.Size, goneExtent("A", 0, 1, l.Data))
		right := disk[0]
		for at := range right {
			disk[0] = right[:at] + string([]byte{right[at] + 1}) + right[at+1:]
			codesAre(t, "no header "+brief(disk[0]), impl.ErrFormat, stage12Extents(disk, "A")...)
		}
	}
	chains, _ := impl.FormatChains(16, 16)
	codesAre(t, "chains", impl.ErrFormat, stage12Extents(chains, "A")...)
}

func TestP22GoneExtents(t *testing.T) {
	goneAre := func(what string, disk []string, want ...string) {
		t.Helper()
		names, c := impl.GoneExtents(disk)
		namesAre(t, what, names, c, want...)
	}
	goneAre("none", newExtents(t, 64, 16))
	goneAre("only files", extentsWith(t, 64, 16, extentOf("A", 0, 0), extentOf("B", 0, 1, 17)))
	goneAre("in no order, several times", extentsWith(t, 64, 16, goneExtent("B", 1, 16, 17), goneExtent("A", 0, 0), extentOf("C", 0, 0), goneExtent("B", 0, 0), impl.ExtentEntry{}, goneExtent("ABCDEFGH", 31, 16, 255), goneExtent("A", 0, 0), goneExtent("A_", 5, 5)), "A", "ABCDEFGH", "A_", "B")
	goneAre("also a name that is a file's", extentsWith(t, 64, 16, extentOf("A", 0, 0), goneExtent("A", 0, 0)), "A")
	full := newExtents(t, 128, 8)
	names := []string{}
	for k := range 32 {
		full = patched(full, 8+16*k, extentText(goneExtent(fmt.Sprint("N", 99-k), 0, 0)))
		names = append(names, fmt.Sprint("N", 68+k))
	}
	goneAre("as many as there are entries", full, names...)
	for _, bytes := range malformedExtents() {
		goneAre("not valid "+brief(bytes), withExtents(newExtents(t, 64, 8), extentText(goneExtent("Z", 0, 0)), "\xe5"+bytes[1:], extentText(goneExtent("B", 0, 0))), plainGoneNames("\xe5"+bytes[1:], "B", "Z")...)
	}
	goneAre("states that are none", withExtents(newExtents(t, 64, 8), "\xe4"+extentText(goneExtent("A", 0, 0))[1:], "\xe6"+extentText(goneExtent("B", 0, 0))[1:], "\x02"+extentText(goneExtent("C", 0, 0))[1:]))
}

// plainGoneNames returns names, and with them that of an entry with some bytes if it is valid on a disk with blocks of 8 bytes.
func plainGoneNames(bytes string, names ...string) []string {
	x := plainExtents{all: []byte(zeros(8) + bytes), blocks: 4, size: 8, entries: 1}
	return append(x.goneNames(), names...)
}

func TestP22ExtentsByHand(t *testing.T) {
	disk, _ := impl.FormatExtents(16, 8)
	disk, _ = impl.WriteExtents(disk, impl.File{Name: "LETTER_1", Data: "the quick brown fox jumps over the lazy dog"})
	disk, _ = impl.WriteExtents(disk, impl.File{Name: "A", Data: "other"})
	before := slices.Clone(disk)
	disk, _ = impl.DeleteExtents(disk, "LETTER_1")
	names, c := impl.GoneExtents(disk)
	namesAre(t, "gone", names, c, "LETTER_1")
	after := undeletesExtents(t, "a file of two entries", disk, "LETTER_1", "the quick brown fox jumps over the lazy dog")
	diskIs(t, "as before", after, impl.OK, before)
	problemsAre(t, "no problems", after)
	extentsStayGone(t, "not deleted any more", after, "LETTER_1", impl.ErrNotFound)
}

func TestP22NamesOfExtents(t *testing.T) {
	disk := withExtents(extentsWith(t, 64, 16), extentText(extentOf("A", 0, 5, 20)), extentText(goneExtent("B", 0, 5, 21)), "\xe5c"+extentText(goneExtent("C", 0, 5, 22))[2:], extentText(goneExtent("D", 0, 17, 23)), extentText(goneExtent("E", 32, 1, 24)))
	for _, name := range append([]string{"", "A", "C", "c", "D", "E", "X", "BB", "B ", " B", "b", "B\x00", "B       "}, oddStrings()...) {
		extentsStayGone(t, "no deleted entry "+brief(name), disk, name, impl.ErrNotFound)
	}
	undeletesExtents(t, "B", disk, "B", disk[21][:5])
	// A file with the name may be damaged, and have other Numbers.
	for what, e := range map[string]impl.ExtentEntry{"a file": extentOf("B", 0, 1, 30), "one without contents": extentOf("B", 0, 0), "a damaged one": extentOf("B", 9, 0, 255), "another extent": extentOf("B", 1, 5, 31)} {
		extentsStayGone(t, what, extentsWith(t, 64, 16, goneExtent("B", 0, 16, 20, 21, 22, 23), e), "B", impl.ErrExists)
		extentsStayGone(t, what+", before it", extentsWith(t, 64, 16, e, goneExtent("B", 0, 16, 20, 21, 22, 23)), "B", impl.ErrExists)
	}
	valid := extentsWith(t, 64, 16, goneExtent("B", 0, 16, 20, 21, 22, 23))
	wrong := withExtents(valid, extentText(goneExtent("B", 0, 16, 20, 21, 22, 23)), extentText(extentOf("B", 0, 17, 30)))
	undeletesExtents(t, "a used entry with the name is not valid", wrong, "B", strings.Join(valid[20:24], ""))
	wrong = withExtents(valid, extentText(goneExtent("B", 0, 16, 20, 21, 22, 23)), extentText(goneExtent("B", 1, 17, 30)))
	undeletesExtents(t, "a deleted entry with the name is not valid", wrong, "B", strings.Join(valid[20:24], ""))
}

func TestP22ExtentsThatComeBack(t *testing.T) {
	disk := extentsWith(t, 64, 16)
	all := func(blocks ...int) string {
		data := ""
		for _, block := range blocks {
			data += disk[block]
		}
		return data
	}
	for _, r := range []struct {
		what    string
		want    string
		entries []impl.ExtentEntry
	}{
		{"no contents", "", []impl.ExtentEntry{goneExtent("A", 0, 0)}},
		{"a byte", disk[17][:1], []impl.ExtentEntry{goneExtent("A", 0, 1, 17)}},
		{"the last block", disk[63], []impl.ExtentEntry{goneExtent("A", 0, 16, 63)}},
		{"blocks in no order", all(40, 17, 63, 20), []impl.ExtentEntry{goneExtent("A", 0, 16, 40, 17, 63, 20)}},
		{"two entries", all(20, 21, 22, 23, 24)[:66], []impl.ExtentEntry{goneExtent("A", 0, 16, 20, 21, 22, 23), goneExtent("A", 1, 2, 24)}},
		{"two entries in another order", all(20, 21, 22, 23, 24)[:66], []impl.ExtentEntry{goneExtent("A", 1, 2, 24), {}, goneExtent("A", 0, 16, 20, 21, 22, 23)}},
		{"three entries", all(20, 21, 22, 23, 24, 25, 26, 27, 18, 19), []impl.ExtentEntry{goneExtent("A", 2, 16, 18, 19), goneExtent("A", 0, 16, 20, 21, 22, 23), goneExtent("A", 1, 16, 24, 25, 26, 27)}},
		{"beside files", disk[17][:1], []impl.ExtentEntry{extentOf("B", 0, 1, 18), goneExtent("A", 0, 1, 17), extentOf("C", 0, 1, 19)}},
		{"beside other deleted files with its blocks", all(17, 18), []impl.ExtentEntry{goneExtent("B", 0, 1, 17), goneExtent("A", 0, 16, 17, 18), goneExtent("C", 0, 1, 18)}},
	} {
		after := undeletesExtents(t, r.what, extentsWith(t, 64, 16, r.entries...), "A", r.want)
		problemsAre(t, r.what, after)
	}
	// The most entries of a file
	entries := []impl.ExtentEntry{}
	for number := range int64(15) {
		first := 65 + 4*number
		entries = append(entries, goneExtent("A", 14-number, 8, first, first+1, first+2, first+3))
	}
	disk = extentsWith(t, 128, 8, entries...)
	want := ""
	for number := 14; number >= 0; number-- {
		want += strings.Join(disk[65+4*number:69+4*number], "")
	}
	undeletesExtents(t, "fifteen entries", disk, "A", want)
}

func TestP22ExtentsThatStayGone(t *testing.T) {
	for _, r := range []struct {
		what    string
		want    int64
		entries []impl.ExtentEntry
	}{
		{"two Numbers 0", impl.ErrAmbiguous, []impl.ExtentEntry{goneExtent("A", 0, 16, 20), goneExtent("A", 0, 16, 21)}},
		{"two equal entries", impl.ErrAmbiguous, []impl.ExtentEntry{goneExtent("A", 0, 0), goneExtent("A", 0, 0)}},
		{"two Numbers 1", impl.ErrAmbiguous, []impl.ExtentEntry{goneExtent("A", 1, 16, 24), goneExtent("A", 0, 16, 20, 21, 22, 23), goneExtent("A", 1, 16, 25)}},
		{"two Numbers and a gap", impl.ErrAmbiguous, []impl.ExtentEntry{goneExtent("A", 5, 16, 24), goneExtent("A", 0, 16, 20, 21, 22, 23), goneExtent("A", 5, 16, 25)}},
		{"two Numbers and a block that is used", impl.ErrAmbiguous, []impl.ExtentEntry{goneExtent("A", 0, 16, 20), extentOf("B", 0, 1, 20), goneExtent("A", 0, 16, 20)}},
		{"two Numbers and no data block", impl.ErrAmbiguous, []impl.ExtentEntry{goneExtent("A", 0, 16, 0), goneExtent("A", 0, 16, 255)}},
		{"two Numbers and a file", impl.ErrExists, []impl.ExtentEntry{goneExtent("A", 0, 16, 20), goneExtent("A", 0, 16, 21), extentOf("A", 0, 0)}},
		{"a file and a gap", impl.ErrExists, []impl.ExtentEntry{goneExtent("A", 3, 16, 20), extentOf("A", 0, 0)}},
		{"a file with its block", impl.ErrExists, []impl.ExtentEntry{extentOf("A", 0, 1, 20), goneExtent("A", 1, 16, 20)}},
		{"no Number 0", impl.ErrDamaged, []impl.ExtentEntry{goneExtent("A", 1, 16, 20)}},
		{"a gap", impl.ErrDamaged, []impl.ExtentEntry{goneExtent("A", 0, 16, 20, 21, 22, 23), goneExtent("A", 2, 16, 24)}},
		{"the last Number is used again", impl.ErrDamaged, []impl.ExtentEntry{goneExtent("A", 1, 16, 24), extentOf("B", 0, 1, 30)}},
		{"three blocks in the middle", impl.ErrDamaged, []impl.ExtentEntry{goneExtent("A", 0, 16, 20, 21, 22), goneExtent("A", 1, 16, 24)}},
		{"a Tail in the middle", impl.ErrDamaged, []impl.ExtentEntry{goneExtent("A", 0, 15, 20, 21, 22, 23), goneExtent("A", 1, 16, 24)}},
		{"no blocks at the end", impl.ErrDamaged, []impl.ExtentEntry{goneExtent("A", 0, 16, 20, 21, 22, 23), goneExtent("A", 1, 0)}},
		{"a Tail without a block", impl.ErrDamaged, []impl.ExtentEntry{goneExtent("A", 0, 1)}},
		{"a block without a Tail", impl.ErrDamaged, []impl.ExtentEntry{goneExtent("A", 0, 0, 20)}},
		{"a block that a file uses", impl.ErrDamaged, []impl.ExtentEntry{goneExtent("A", 0, 16, 20, 21), extentOf("B", 0, 1, 21)}},
		{"a block that a file uses, before it", impl.ErrDamaged, []impl.ExtentEntry{extentOf("B", 0, 1, 20), goneExtent("A", 0, 16, 20, 21)}},
		{"a block that a damaged file uses", impl.ErrDamaged, []impl.ExtentEntry{extentOf("B", 9, 0, 20), goneExtent("A", 0, 16, 20, 21)}},
		{"a block of the second entry", impl.ErrDamaged, []impl.ExtentEntry{goneExtent("A", 0, 16, 20, 21, 22, 23), goneExtent("A", 1, 16, 24), extentOf("B", 0, 16, 24)}},
		{"a block that both entries list", impl.ErrDamaged, []impl.ExtentEntry{goneExtent("A", 0, 16, 20, 21, 22, 23), goneExtent("A", 1, 16, 23)}},
		{"a block that an entry lists twice", impl.ErrDamaged, []impl.ExtentEntry{goneExtent("A", 0, 16, 20, 20)}},
		{"the first block and the last one", impl.ErrDamaged, []impl.ExtentEntry{goneExtent("A", 0, 16, 20, 21, 22, 20)}},
		{"a block of the directory", impl.ErrDamaged, []impl.ExtentEntry{goneExtent("A", 0, 16, 16)}},
		{"block 0", impl.ErrDamaged, []impl.ExtentEntry{goneExtent("A", 0, 16, 20, 0)}},
		{"a block behind the last one", impl.ErrDamaged, []impl.ExtentEntry{goneExtent("A", 0, 16, 64)}},
		{"a block far behind the last one", impl.ErrDamaged, []impl.ExtentEntry{goneExtent("A", 0, 16, 255)}},
	} {
		extentsStayGone(t, r.what, extentsWith(t, 64, 16, r.entries...), "A", r.want)
	}
	// If an entry of three is used again, the others are not complete, unless it was the last one.
	disk := extentsWith(t, 64, 16, goneExtent("A", 0, 16, 20, 21, 22, 23), goneExtent("A", 1, 16, 24, 25, 26, 27), goneExtent("A", 2, 16, 28))
	for k, want := range []int64{impl.ErrDamaged, impl.ErrDamaged, impl.OK} {
		again := patched(disk, 16+16*k, extentText(extentOf("B", 0, 0)))
		_, c := impl.UndeleteExtents(again, "A")
		code(t, "an entry that is used again", c, want)
		goneExtentsAre(t, again)
	}
}

// A disk may still have deleted entries of an older file with the same name. All of them come back or none, as the document says, even if the new file was deleted just now.
func TestP22EntriesOfAnOlderFile(t *testing.T) {
	disk := newExtents(t, 16, 8)
	disk, _ = impl.WriteExtents(disk, impl.File{Name: "A", Data: strings.Repeat("a", 40)})
	disk, _ = impl.DeleteExtents(disk, "A")
	disk, _ = impl.WriteExtents(disk, impl.File{Name: "A", Data: strings.Repeat("b", 32)})
	disk, _ = impl.DeleteExtents(disk, "A")
	undeletesExtents(t, "both entries", disk, "A", strings.Repeat("b", 32)+strings.Repeat("a", 8))
	disk, _ = impl.WriteExtents(disk, impl.File{Name: "A", Data: strings.Repeat("c", 31)})
	disk, _ = impl.DeleteExtents(disk, "A")
	extentsStayGone(t, "the first one is not full", disk, "A", impl.ErrDamaged)
	disk, _ = impl.WriteExtents(disk, impl.File{Name: "B"})
	disk, _ = impl.WriteExtents(disk, impl.File{Name: "A", Data: "d"})
	disk, _ = impl.DeleteExtents(disk, "A")
	undeletesExtents(t, "only one is left", disk, "A", "d")
	// The new file takes an entry before that of the older one.
	disk = wroteExtents(t, wroteExtents(t, newExtents(t, 16, 8), "B 5"), "A 5")
	disk, _ = impl.DeleteExtents(disk, "A")
	disk, _ = impl.DeleteExtents(disk, "B")
	disk = wroteExtents(t, disk, "A 9")
	disk, _ = impl.DeleteExtents(disk, "A")
	extentsStayGone(t, "both have the Number 0", disk, "A", impl.ErrAmbiguous)
}

func TestP22WrittenDeletedAndUndeletedExtents(t *testing.T) {
	from := source(510)
	count := 0
	for range 400 {
		disk := from.anyExtents(t, 0)
		names, _ := impl.ListExtents(disk)
		gone, _ := impl.GoneExtents(disk)
		for _, name := range append(names, "NEW_1") {
			data := from.bytes(int(from.below(120)))
			written, c := impl.WriteExtents(disk, impl.File{Name: name, Data: data})
			if c != impl.OK || slices.Contains(gone, name) {
				continue
			}
			deleted, _ := impl.DeleteExtents(written, name)
			after := undeletesExtents(t, "at once", deleted, name, data)
			diskIs(t, "as it was", after, impl.OK, written)
			problemsAre(t, "no problems", after)
			count++
		}
	}
	is(t, "some files", count > 300, true)
}

func TestP22AnyDisksWithExtents(t *testing.T) {
	from := source(511)
	for i := range 1000 {
		disk := from.anyExtents(t, int64(i%6))
		x := plainExtentsOf(disk)
		for k := range x.entries {
			if from.below(2) == 0 && x.bytesOf(k)[0] == 1 {
				x.bytesOf(k)[0] = 229
			}
		}
		disk = x.disk()
		before := slices.Clone(disk)
		goneExtentsAre(t, disk)
		is(t, "argument", disk, before)
	}
}

func TestP22Places(t *testing.T) {
	for _, r := range []struct {
		s, part    string
		from, want int64
	}{
		{"abab", "b", 2, 3}, {"abab", "b", 1, 1}, {"abab", "b", 0, 1}, {"abab", "b", 3, 3}, {"abab", "b", 4, -1}, {"abab", "b", 5, -1}, {"abab", "a", 1, 2}, {"abab", "a", 3, -1},
		{"ab", "", 0, 0}, {"ab", "", 1, 1}, {"ab", "", 2, 2}, {"ab", "", 3, -1}, {"ab", "", math.MaxInt64, -1}, {"", "", 0, 0}, {"", "", 1, -1}, {"", "a", 0, -1},
		{"ab", "", -1, -1}, {"ab", "a", -1, -1}, {"ab", "a", math.MinInt64, -1}, {"ab", "b", -2, -1}, {"ab", "a", math.MaxInt64, -1}, {"ab", "a", 1 << 32, -1},
		{"ab", "c", 0, -1}, {"ab", "abc", 0, -1}, {"ab", "ab", 0, 0}, {"ab", "ab", 1, -1}, {"abc", "bc", 1, 1}, {"abc", "bc", 2, -1},
		{"aaaa", "aa", 0, 0}, {"aaaa", "aa", 1, 1}, {"aaaa", "aa", 2, 2}, {"aaaa", "aa", 3, -1}, {"ababa", "aba", 0, 0}, {"ababa", "aba", 1, 2}, {"aab", "ab", 0, 1},
		{"\xff\x00\xff", "\xff", 1, 2}, {"\u00e9\u00e8", "\xa8", 0, 3}, {"a\x00b", "\x00", 0, 1},
	} {
		is(t, fmt.Sprintf("%q in %q from %d", r.part, r.s, r.from), impl.PlaceOf(r.s, r.part, r.from), r.want)
	}
	from := source(520)
	for range 3000 {
		s, part := from.cells(int(from.below(20)), 2), from.cells(int(from.below(4)), 2)
		at := from.below(26) - 3
		want := int64(-1)
		for i := len(s) - len(part); i >= 0 && at >= 0 && i >= int(at); i-- {
			if s[i:i+len(part)] == part {
				want = int64(i)
			}
		}
		is(t, fmt.Sprintf("%q in %q from %d", part, s, at), impl.PlaceOf(s, part, at), want)
	}
}

// plainCarved follows the words of the document for CarveAt, with valid arguments.
func plainCarved(disk []string, block int64, head, tail string, most int64) (impl.Carved, int64) {
	if block < 0 || block >= int64(len(disk)) {
		return impl.Carved{}, impl.ErrRange
	}
	if !strings.HasPrefix(strings.Join(disk[block:], ""), head) {
		return impl.Carved{}, impl.ErrNotFound
	}
	all := strings.Join(disk[block:min(int(block+most), len(disk))], "")
	for end := range len(all) + 1 {
		if end >= len(head)+len(tail) && all[end-len(tail):end] == tail {
			return impl.Carved{First: block, Count: int64(up(end, len(disk[0]))), Data: all[:end]}, impl.OK
		}
	}
	return impl.Carved{}, impl.ErrNotFound
}

// carves requires the files of a disk, and those at each block.
func carves(t *testing.T, what string, disk []string, head, tail string, most int64, want ...impl.Carved) {
	t.Helper()
	list, c := impl.CarveAll(disk, head, tail, most)
	code(t, what, c, impl.OK)
	if !slices.Equal(list, want) {
		t.Errorf("%q: got %s, want %s", what, brief(list), brief(want))
	}
	for block := int64(-1); block <= int64(len(disk)); block++ {
		got, c := impl.CarveAt(disk, block, head, tail, most)
		at := slices.IndexFunc(want, func(x impl.Carved) bool { return x.First == block })
		switch {
		case block < 0 || block == int64(len(disk)):
			is(t, what+": no block", []any{got, c}, []any{impl.Carved{}, int64(impl.ErrRange)})
		case at < 0:
			is(t, what+": no file", []any{got, c}, []any{impl.Carved{}, int64(impl.ErrNotFound)})
		default:
			is(t, what+": a file", []any{got, c}, []any{want[at], int64(impl.OK)})
		}
	}
}

func carved(first, count int64, data string) impl.Carved {
	return impl.Carved{First: first, Count: count, Data: data}
}

func TestP22Carving(t *testing.T) {
	for _, r := range []struct {
		what       string
		disk       []string
		head, tail string
		most       int64
		want       []impl.Carved
	}{
		{"the example", []string{"<ab", "cd>", "xyz"}, "<", ">", 2, []impl.Carved{carved(0, 2, "<abcd>")}},
		{"one block too few", []string{"<ab", "cd>", "xyz"}, "<", ">", 1, nil},
		{"more blocks than there are", []string{"<ab", "cd>", "xyz"}, "<", ">", 32, []impl.Carved{carved(0, 2, "<abcd>")}},
		{"one block", []string{"<a>"}, "<", ">", 1, []impl.Carved{carved(0, 1, "<a>")}},
		{"blocks of a byte", []string{"<", "a", ">", "<", ">"}, "<", ">", 3, []impl.Carved{carved(0, 3, "<a>"), carved(3, 2, "<>")}},
		{"blocks of a byte, two of them", []string{"<", "a", ">", "<", ">"}, "<", ">", 2, []impl.Carved{carved(3, 2, "<>")}},
		{"no head", []string{"ab>", "cd>", "xyz"}, "<", ">", 3, nil},
		{"a head in the middle of a block", []string{"a<>", "<b>"}, "<", ">", 3, []impl.Carved{carved(1, 1, "<b>")}},
		{"no tail", []string{"<ab", "cde", "xyz"}, "<", ">", 3, nil},
		{"a tail only before the head", []string{"a>b", "<cd"}, "<", ">", 3, nil},
		{"the first of several tails", []string{"<a>", "b>>"}, "<", ">", 3, []impl.Carved{carved(0, 1, "<a>")}},
		{"bytes behind the tail", []string{"<a>bc", "defgh"}, "<", ">", 3, []impl.Carved{carved(0, 1, "<a>")}},
		{"a tail right behind the head", []string{"[]xyz"}, "[", "]", 1, []impl.Carved{carved(0, 1, "[]")}},
		{"a tail right behind the head, in the next block", []string{"ab", "cd"}, "ab", "c", 2, []impl.Carved{carved(0, 2, "abc")}},
		{"a tail across two blocks", []string{"<ab", "END", "..."}, "<", "bE", 2, []impl.Carved{carved(0, 2, "<abE")}},
		{"a tail across three blocks", []string{"<ab", "END", "..."}, "<", "bEND.", 3, []impl.Carved{carved(0, 3, "<abEND.")}},
		{"a tail across the last block of most", []string{"<ab", "END", "..."}, "<", "bEND.", 2, nil},
		{"a tail in the last block of most", []string{"<ab", "cde", "f>g"}, "<", ">", 3, []impl.Carved{carved(0, 3, "<abcdef>")}},
		{"a tail at the end of the last block of most", []string{"<ab", "cd>", "f>g"}, "<", ">", 2, []impl.Carved{carved(0, 2, "<abcd>")}},
		{"a tail in one block further", []string{"<ab", "cde", ">fg"}, "<", ">", 2, nil},
		{"a tail that ends with the disk", []string{"<ab", "cde", "fg>"}, "<", ">", 3, []impl.Carved{carved(0, 3, "<abcdefg>")}},
		{"a tail that ends behind the disk", []string{"<ab", "cde", "fg>"}, "<", ">>", 3, nil},
		{"files that overlap", []string{"<ab", "<cd", "ef>", "<>."}, "<", ">", 3, []impl.Carved{carved(0, 3, "<ab<cdef>"), carved(1, 2, "<cdef>"), carved(3, 1, "<>")}},
		{"a file within another one", []string{"<<a", "<b>"}, "<", ">", 3, []impl.Carved{carved(0, 2, "<<a<b>"), carved(1, 1, "<b>")}},
		{"a head longer than a block", []string{"abc", "def", "g.."}, "abcdefg", ".", 3, []impl.Carved{carved(0, 3, "abcdefg.")}},
		{"a head longer than a block, and than most", []string{"abc", "def", "g.."}, "abcdefg", ".", 2, nil},
		{"a head of two blocks, and then the tail", []string{"abc", "def", "g.."}, "abcdef", "g.", 3, []impl.Carved{carved(0, 3, "abcdefg.")}},
		{"a head of most blocks", []string{"abc", "def", "g.."}, "abcdef", "g.", 2, nil},
		{"a head that differs in its second block", []string{"abc", "dxf", "g.."}, "abcdef", "g", 3, nil},
		{"a head that ends with the disk", []string{"x.x", "abc", "def"}, "abcdef", "f", 3, nil},
		{"a head longer than the rest of the disk", []string{"x.x", "abc", "def"}, "abcdefg", "f", 3, nil},
		{"a head longer than the disk", []string{"abc"}, "abcabc", "c", 3, nil},
		{"a tail within the head alone", []string{"a.b", "cde"}, "a.b", ".", 3, nil},
		{"a tail within the head, and behind it", []string{"a.b", "c.e"}, "a.b", ".", 3, []impl.Carved{carved(0, 2, "a.bc.")}},
		{"a tail that begins in the head", []string{"aaa", "bbb"}, "aa", "aab", 3, nil},
		{"a tail that begins in the head and behind it", []string{"aaaab", "bbbbb"}, "aa", "aab", 3, []impl.Carved{carved(0, 1, "aaaab")}},
		{"a head that is the tail", []string{"--a", "---"}, "--", "--", 3, []impl.Carved{carved(0, 2, "--a--")}},
		{"equal bytes", []string{"aa", "aa", "aa"}, "a", "aaa", 2, []impl.Carved{carved(0, 2, "aaaa"), carved(1, 2, "aaaa")}},
		{"Data that end with a block", []string{"<a>", ">>>"}, "<", ">", 2, []impl.Carved{carved(0, 1, "<a>")}},
		{"Data that end with the second block", []string{"<ab", "cd>", ">>>"}, "<", "d>", 3, []impl.Carved{carved(0, 2, "<abcd>")}},
		{"zero bytes", []string{"\x00\x00", "\x00\x01"}, "\x00", "\x00\x00", 2, []impl.Carved{carved(0, 2, "\x00\x00\x00")}},
		{"bytes that are no runes", []string{"\xff\xfe", "\xe9\xff"}, "\xff", "\xe9", 2, []impl.Carved{carved(0, 2, "\xff\xfe\xe9")}},
	} {
		carves(t, r.what, r.disk, r.head, r.tail, r.most, r.want...)
	}
}

func TestP22LimitsOfCarving(t *testing.T) {
	// Blocks of 64 bytes, of which 32 are the most
	disk := slices.Repeat([]string{strings.Repeat(".", 64)}, 128)
	disk[5] = "<" + disk[5][1:]
	disk[36] = disk[36][1:] + ">"
	file := strings.Join(disk[5:37], "")
	carves(t, "the most blocks", disk, "<", ">", 32, carved(5, 32, file))
	carves(t, "one block fewer", disk, "<", ">", 31)
	carves(t, "the longest head", disk, file[:2047], ">", 32, carved(5, 32, file))
	carves(t, "the longest tail", disk, "<", file[1:], 32, carved(5, 32, file))
	carves(t, "a head of all bytes", disk, file, ".", 32)
	disk[36], disk[37] = disk[0], ">"+disk[0][1:]
	carves(t, "one block further", disk, "<", ">", 32)
	disk[96], disk[127] = disk[5], disk[0][1:]+">"
	carves(t, "the last blocks", disk, "<", ">", 32, carved(96, 32, strings.Join(disk[96:], "")))
	long := strings.Repeat(".", impl.MaxBytes)
	for _, r := range [][2]string{{long, "."}, {".", long}, {long, long}} {
		carves(t, "as long as they may be", disk, r[0], r[1], 32)
	}
	bytes := slices.Repeat([]string{"<"}, 128)
	bytes[127] = ">"
	list, c := impl.CarveAll(bytes, "<", ">", 32)
	is(t, "128 blocks of a byte", []int64{int64(len(list)), list[0].First, list[30].Count, c}, []int64{31, 96, 2, impl.OK})
}

// noCarving are arguments that are not valid.
func noCarving() []carving {
	good := []string{"<ab", "cd>"}
	long := strings.Repeat("<", impl.MaxBytes+1)
	list := []carving{
		{good, "", ">", 2}, {good, "<", "", 2}, {good, "", "", 2}, {good, long, ">", 2}, {good, "<", long, 2}, {good, long, long, 2},
	}
	for _, most := range []int64{0, -1, 33, 34, 64, 256, 1 << 32, math.MinInt64, math.MaxInt64} {
		list = append(list, carving{good, "<", ">", most})
	}
	for _, disk := range [][]string{nil, {}, {""}, {"", ""}, slices.Repeat([]string{""}, 128), slices.Repeat([]string{"<>"}, 129), slices.Repeat([]string{"<>"}, 256), {strings.Repeat("<>", 33)}, {strings.Repeat("<", 65)}, slices.Repeat([]string{strings.Repeat("<", 65)}, 3), {"<>", "<"}, {"<", "<>"}, {"<>", "<>", ""}, {"", "<>"}, {"<>", "<>", "<>x"}, {"<>", "x", "<>"}} {
		list = append(list, carving{disk, "<", ">", 2})
	}
	return list
}

// carving is the arguments of CarveAll.
type carving struct {
	disk       []string
	head, tail string
	most       int64
}

func TestP22NoCarving(t *testing.T) {
	for _, r := range noCarving() {
		what := "nothing to carve " + brief(r.disk)
		list, c := impl.CarveAll(r.disk, r.head, r.tail, r.most)
		is(t, what, []int64{int64(len(list)), c}, []int64{0, impl.ErrInvalid})
		for _, block := range []int64{0, -1, 1, 200, math.MinInt64, math.MaxInt64} {
			got, c := impl.CarveAt(r.disk, block, r.head, r.tail, r.most)
			is(t, what, []any{got, c}, []any{impl.Carved{}, int64(impl.ErrInvalid)})
		}
	}
	for _, disk := range [][]string{{"<ab", "cd>"}, {"xab", "cd>"}, {"<"}, slices.Repeat([]string{strings.Repeat("<", 64)}, 128)} {
		for _, block := range []int64{-1, int64(len(disk)), 128, 129, 1 << 32, math.MinInt64, math.MaxInt64} {
			got, c := impl.CarveAt(disk, block, "<", ">", 32)
			is(t, "no block", []any{got, c}, []any{impl.Carved{}, int64(impl.ErrRange)})
		}
	}
}

func TestP22AnyCarving(t *testing.T) {
	from := source(521)
	for range 4000 {
		size := int(from.below(5) + 1)
		disk := []string{}
		for range from.below(12) + 1 {
			disk = append(disk, from.cells(size, 2))
		}
		head, tail, most := from.cells(int(from.below(7)+1), 2), from.cells(int(from.below(5)+1), 2), from.below(6)+1
		want := []impl.Carved{}
		for block := range disk {
			if x, c := plainCarved(disk, int64(block), head, tail, most); c == impl.OK {
				want = append(want, x)
			}
		}
		carves(t, fmt.Sprintf("%q %q %q %d", disk, head, tail, most), disk, head, tail, most, want...)
		all := strings.Join(disk, "")
		for _, x := range want {
			is(t, "what the blocks contain", strings.HasPrefix(all[int(x.First)*size:], x.Data), true)
			is(t, "from head to tail", strings.HasPrefix(x.Data, head) && strings.HasSuffix(x.Data, tail), true)
		}
	}
}

// Files are carved from a disk with a file system, too.
func TestP22CarvingFromFileSystems(t *testing.T) {
	disk := newChains(t, 64, 16)
	disk, _ = impl.WriteChain(disk, impl.File{Name: "A", Data: "BEGIN of a text of several blocks END"})
	disk, _ = impl.WriteChain(disk, impl.File{Name: "B", Data: "BEGIN END"})
	disk, _ = impl.DeleteChain(disk, "A")
	carves(t, "chains", disk, "BEGIN", "END", 8, carved(11, 3, "BEGIN of a text of several blocks END"), carved(14, 1, "BEGIN END"))
}
