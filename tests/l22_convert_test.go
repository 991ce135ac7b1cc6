package tests

import (
	"fmt"
	"math"
	"slices"
	"strings"
	"testing"

	"loop.example/g00899/impl"
)

func systemKinds() []int64 { return []int64{impl.FsChains, impl.FsExtents, impl.FsTrees} }

// noSystems are numbers that are no kind of file systems.
func noSystems() []int64 {
	return []int64{0, 4, -1, -2, 5, 255, 256, 257, 1 << 32, 1<<32 + 1, math.MinInt64, math.MinInt64 + 1, math.MaxInt64}
}

// plainNames returns the names of all files of a file system, as its own chapter lists them.
func plainNames(kind int64, disk []string) ([]string, int64) {
	switch kind {
	case impl.FsChains:
		if _, c := impl.LayoutOf(disk); c != impl.OK {
			return nil, c
		}
		return plainChainsOf(disk).names()
	case impl.FsExtents:
		if _, c := impl.ExtentsOn(disk); c != impl.OK {
			return nil, c
		}
		return plainExtentsOf(disk).names(), impl.OK
	}
	return plainPaths(disk)
}

func plainContents(kind int64, disk []string, name string) (string, int64) {
	switch kind {
	case impl.FsChains:
		return plainChainsOf(disk).read(name)
	case impl.FsExtents:
		return plainExtentsOf(disk).read(name)
	}
	return plainReadTree(disk, name)
}

// plainFiles follows the words of the document for FilesOfSystem.
func plainFiles(kind int64, disk []string) ([]impl.File, int64) {
	names, c := plainNames(kind, disk)
	if c != impl.OK {
		return nil, c
	}
	if kind == impl.FsTrees && strings.Contains(strings.Join(names, ""), "/") {
		return nil, impl.ErrState
	}
	list := []impl.File{}
	isWrong := len(names) > 16
	for i, name := range names {
		data, c := plainContents(kind, disk, name)
		if c != impl.OK {
			return nil, c
		}
		isWrong = isWrong || len(data) > 512 || i > 0 && names[i-1] == name
		list = append(list, impl.File{Name: name, Data: data})
	}
	if isWrong {
		return nil, impl.ErrFull
	}
	return list, impl.OK
}

// plainSystem follows the words of the document for MakeSystem, with a valid kind and list.
func plainSystem(kind, blocks int64, list []impl.File) ([]string, int64) {
	disk, c := impl.FormatTree(blocks)
	switch kind {
	case impl.FsChains:
		disk, c = impl.FormatChains(blocks, 32)
	case impl.FsExtents:
		disk, c = impl.FormatExtents(blocks, 32)
	}
	for _, f := range list {
		if c != impl.OK {
			return nil, c
		}
		switch kind {
		case impl.FsChains:
			disk, c = plainChainsOf(disk).write(f.Name, f.Data)
		case impl.FsExtents:
			disk, c = plainExtentsOf(disk).write(f)
		default:
			disk, c = plainStored(disk, f.Name, f.Data)
		}
	}
	return disk, c
}

// systemWith returns a file system with files, each of which is a name, a blank, and how many bytes.
func systemWith(t *testing.T, kind, blocks int64, files ...string) []string {
	t.Helper()
	disk, c := impl.MakeSystem(kind, blocks, filesOf(files...))
	code(t, "make", c, impl.OK)
	return disk
}

func filesOf(texts ...string) []impl.File {
	list := []impl.File{}
	for _, text := range texts {
		list = append(list, fileOf(text))
	}
	return list
}

// hasFiles requires the files of a file system.
func hasFiles(t *testing.T, what string, kind int64, disk []string, want ...impl.File) {
	t.Helper()
	got, c := impl.FilesOfSystem(kind, disk)
	code(t, what, c, impl.OK)
	if !slices.Equal(got, want) {
		t.Errorf("%q: got %s, want %s", what, brief(got), brief(want))
	}
	is(t, what+": the same", impl.SameFiles(got, want), true)
}

// noFiles requires an error of both functions that read a file system.
func noFiles(t *testing.T, what string, kind int64, disk []string, want int64) {
	t.Helper()
	list, c := impl.FilesOfSystem(kind, disk)
	code(t, what, c, want)
	is(t, what+": no files", len(list), 0)
	for _, to := range systemKinds() {
		for _, blocks := range []int64{64, 0} {
			after, c := impl.ConvertSystem(kind, disk, to, blocks)
			noDisk(t, what, after, c, want)
		}
	}
}

func TestP23Constants(t *testing.T) {
	is(t, "kinds", systemKinds(), []int64{1, 2, 3})
}

func TestP23NoKinds(t *testing.T) {
	disks := [][]string{nil, {"x"}, systemWith(t, 1, 16, "A 5"), systemWith(t, 2, 16, "A 5"), systemWith(t, 3, 16, "A 5")}
	for _, kind := range noSystems() {
		for _, disk := range disks {
			noFiles(t, "no kind", kind, disk, impl.ErrInvalid)
			for _, from := range append(systemKinds(), 0) {
				after, c := impl.ConvertSystem(from, disk, kind, 16)
				noDisk(t, "no kind", after, c, impl.ErrInvalid)
			}
		}
		for _, blocks := range []int64{16, 0, -1, 129} {
			disk, c := impl.MakeSystem(kind, blocks, filesOf("A 5"))
			noDisk(t, "no kind", disk, c, impl.ErrInvalid)
			disk, c = impl.MakeSystem(kind, blocks, filesOf("a 5"))
			noDisk(t, "no kind", disk, c, impl.ErrInvalid)
		}
	}
}

func TestP23DisksOfAnotherKind(t *testing.T) {
	for _, r := range []struct {
		kind int64
		disk []string
		want int64
	}{
		{1, nil, impl.ErrInvalid}, {2, nil, impl.ErrFormat}, {3, nil, impl.ErrInvalid},
		{1, []string{"x"}, impl.ErrInvalid}, {2, []string{"x"}, impl.ErrFormat}, {3, []string{"x"}, impl.ErrInvalid},
		{1, systemWith(t, 2, 16, "A 5"), impl.ErrFormat}, {1, systemWith(t, 3, 16, "A 5"), impl.ErrFormat}, {1, systemWith(t, 3, 7, "A 5"), impl.ErrInvalid},
		{2, systemWith(t, 1, 16, "A 5"), impl.ErrFormat}, {2, systemWith(t, 3, 16, "A 5"), impl.ErrFormat}, {2, systemWith(t, 3, 7, "A 5"), impl.ErrFormat},
		{3, systemWith(t, 1, 16, "A 5"), impl.ErrDamaged}, {3, systemWith(t, 2, 16, "A 5"), impl.ErrDamaged},
		{3, chainsWith(t, 16, 16, "A 5"), impl.ErrInvalid}, {3, newExtents(t, 16, 8), impl.ErrInvalid},
		{1, slices.Repeat([]string{zeros(32)}, 16), impl.ErrFormat}, {2, slices.Repeat([]string{zeros(32)}, 16), impl.ErrFormat}, {3, slices.Repeat([]string{zeros(32)}, 16), impl.ErrDamaged},
		{1, make([]string, 100000), impl.ErrInvalid}, {2, make([]string, 100000), impl.ErrFormat}, {3, make([]string, 100000), impl.ErrInvalid},
	} {
		noFiles(t, "no disk "+brief(r.disk), r.kind, r.disk, r.want)
	}
	for _, kind := range systemKinds() {
		disk := systemWith(t, kind, 16, "A 5")
		disk[0] = disk[0][:31] + "\x01"
		noFiles(t, "another block 0", kind, disk, map[int64]int64{1: impl.ErrFormat, 2: impl.ErrFormat, 3: impl.ErrDamaged}[kind])
	}
}

func TestP23FilesOfChains(t *testing.T) {
	hasFiles(t, "none", 1, newChains(t, 16, 8))
	disk := chainsWith(t, 64, 16, "C 20", "A 16", "B 0", "A_ 5")
	hasFiles(t, "in the order of names", 1, disk, filesOf("A 16", "A_ 5", "B 0", "C 20")...)
	gone, _ := impl.DeleteChain(disk, "A")
	hasFiles(t, "without a deleted one", 1, gone, filesOf("A_ 5", "B 0", "C 20")...)
	// What no file is made of does not matter.
	hasFiles(t, "with lost blocks and other links", 1, linked(disk, "30-31-30 10-11 0-F"), filesOf("A 16", "A_ 5", "B 0", "C 20")...)
	hasFiles(t, "chains that meet", 1, chainsLike(t, "11-E", "B 11 16", "A 11 5"), impl.File{Name: "A", Data: zeros(5)}, impl.File{Name: "B", Data: zeros(16)})
	for _, r := range []struct {
		what, links string
		want        int64
		entries     []string
	}{
		{"malformed", "11-E", impl.ErrFormat, []string{"A 11 5", "?"}},
		{"malformed, and a file that is damaged", "11-E", impl.ErrFormat, []string{"A 11 5", "B 200 5", "", "", "", "", "", "?"}},
		{"First", "11-E", impl.ErrRange, []string{"A 11 5", "B 10 5"}},
		{"a link", "11-E 12-64", impl.ErrRange, []string{"A 11 5", "B 12 20"}},
		{"a loop", "11-E 12-12", impl.ErrState, []string{"A 11 5", "B 12 20"}},
		{"an open chain", "11-E 12-F", impl.ErrDamaged, []string{"A 11 5", "B 12 5"}},
		{"a chain that is too short", "11-E 12-E", impl.ErrDamaged, []string{"A 11 5", "B 12 17"}},
		{"a chain that is too long", "11-E 12-E", impl.ErrDamaged, []string{"A 11 5", "B 12 0"}},
		{"the first name, and not the first entry", "11-11 12-E", impl.ErrRange, []string{"C 11 5", "B 10 5", "A 12 5"}},
		{"twins", "11-E 12-E", impl.ErrFull, []string{"A 11 5", "A 12 5"}},
		{"equal twins", "11-E", impl.ErrFull, []string{"A 11 5", "A 11 5"}},
		{"twins without contents", "", impl.ErrFull, []string{"B 0 0", "A 0 0", "B 0 0"}},
		{"twins, of which the second one is damaged", "11-E", impl.ErrFull, []string{"A 11 5", "A 200 5"}},
		{"twins, of which the first one is damaged", "11-E", impl.ErrRange, []string{"A 200 5", "A 11 5"}},
		{"twins, and another file that is damaged", "11-E 12-12", impl.ErrState, []string{"A 11 5", "A 11 5", "B 12 5"}},
	} {
		noFiles(t, r.what, 1, chainsLike(t, r.links, r.entries...), r.want)
	}
}

func TestP23FilesOfExtents(t *testing.T) {
	hasFiles(t, "none", 2, newExtents(t, 16, 8))
	disk := newExtents(t, 64, 8)
	for _, f := range []string{"C 20", "A 70", "B 0", "A_ 5"} {
		disk = wroteExtents(t, disk, f)
	}
	hasFiles(t, "in the order of names", 2, disk, filesOf("A 70", "A_ 5", "B 0", "C 20")...)
	gone, _ := impl.DeleteExtents(disk, "A")
	hasFiles(t, "without a deleted one", 2, gone, filesOf("A_ 5", "B 0", "C 20")...)
	disk = extentsWith(t, 64, 16, extentOf("B", 0, 16, 20), extentOf("A", 0, 2, 20))
	hasFiles(t, "files that share a block", 2, disk, impl.File{Name: "A", Data: disk[20][:2]}, impl.File{Name: "B", Data: disk[20]})
	disk = withExtents(disk, extentText(extentOf("B", 0, 16, 20)), strings.Repeat("x", 16))
	hasFiles(t, "an entry that is not valid", 2, disk, impl.File{Name: "B", Data: disk[20]})
	for what, e := range map[string]impl.ExtentEntry{"no Number 0": extentOf("B", 1, 16, 21), "no data block": extentOf("B", 0, 16, 3), "no Tail": extentOf("B", 0, 0, 21), "no blocks": extentOf("B", 0, 1)} {
		noFiles(t, what, 2, extentsWith(t, 64, 16, extentOf("A", 0, 1, 20), e, extentOf("C", 0, 1, 22)), impl.ErrDamaged)
	}
	// Sixteen files, and one more
	disk = newExtents(t, 128, 8)
	want := []impl.File{}
	for n := range 16 {
		want = append(want, impl.File{Name: fmt.Sprint("N", n+10), Data: fmt.Sprint(n)})
		disk, _ = impl.WriteExtents(disk, want[n])
	}
	hasFiles(t, "sixteen files", 2, disk, want...)
	more := wroteExtents(t, disk, "Z 0")
	noFiles(t, "seventeen files", 2, more, impl.ErrFull)
	damaged := patched(more, 8+16*16, extentText(extentOf("Z", 0, 1)))
	noFiles(t, "seventeen files, of which the last one is damaged", 2, damaged, impl.ErrDamaged)
	// 512 bytes, and one more
	entries := []impl.ExtentEntry{}
	data := ""
	for number := range int64(8) {
		first := 33 + 4*number
		entries = append(entries, extentOf("A", number, 16, first, first+1, first+2, first+3))
		data += strings.Join(extentsWith(t, 128, 16)[first:first+4], "")
	}
	hasFiles(t, "512 bytes", 2, extentsWith(t, 128, 16, entries...), impl.File{Name: "A", Data: data})
	entries = append(entries, extentOf("A", 8, 1, 65))
	noFiles(t, "513 bytes", 2, extentsWith(t, 128, 16, entries...), impl.ErrFull)
	noFiles(t, "513 bytes, and a damaged file", 2, extentsWith(t, 128, 16, append(entries, extentOf("B", 1, 1, 70))...), impl.ErrDamaged)
}

func TestP23FilesOfTrees(t *testing.T) {
	hasFiles(t, "none", 3, newTree(t, 4))
	disk := treeWith(t, 64, "C 20", "A 70", "B 0", "A_ 5")
	hasFiles(t, "in the order of names", 3, disk, filesOf("A 70", "A_ 5", "B 0", "C 20")...)
	hasFiles(t, "beside directories without files", 3, entered(t, entered(t, disk, "D/"), "D/E/"), filesOf("A 70", "A_ 5", "B 0", "C 20")...)
	gone, _ := impl.DeleteTree(disk, "A")
	hasFiles(t, "without a deleted one", 3, gone, filesOf("A_ 5", "B 0", "C 20")...)
	noFiles(t, "a path of two names", 3, entered(t, entered(t, disk, "D/"), "D/X 5"), impl.ErrState)
	noFiles(t, "a path of two names, and no other file", 3, treeWith(t, 64, "A/", "A/B 0"), impl.ErrState)
	noFiles(t, "a path of four names", 3, treeWith(t, 64, "A/", "A/B/", "A/B/C/", "A/B/C/D 0", "E 5"), impl.ErrState)
	for _, depth := range []int{1, 4, 5, 62} {
		noFiles(t, "deep", 3, deepTree(t, depth), impl.ErrState)
	}
	// A tree with a problem is not read at all.
	x := plainTreeOf(disk)
	x.tear(2)
	noFiles(t, "damaged", 3, x.disk(), impl.ErrDamaged)
	x = plainTreeOf(entered(t, entered(t, disk, "D/"), "D/X 5"))
	x.tear(1)
	noFiles(t, "a path of two names, beside a file that cannot be read", 3, x.disk(), impl.ErrDamaged)
	noFiles(t, "with a mark too much", 3, changedTree(func(x plainTree) { x.mark(true, 15) }), impl.ErrDamaged)
	// Sixteen files, and one more
	texts := []string{}
	for n := range 16 {
		texts = append(texts, fmt.Sprint("N", n+10, " ", n))
	}
	disk = treeWith(t, 64, texts...)
	hasFiles(t, "sixteen files", 3, disk, filesOf(texts...)...)
	noFiles(t, "seventeen files", 3, entered(t, disk, "A 0"), impl.ErrFull)
	noFiles(t, "seventeen files, and a path of two names", 3, entered(t, entered(t, entered(t, disk, "A 0"), "D/"), "D/A 0"), impl.ErrState)
	hasFiles(t, "512 bytes", 3, treeWith(t, 64, "A 512"), filesOf("A 512")...)
}

func TestP23AnyFiles(t *testing.T) {
	from := source(600)
	seen := map[[2]int64]bool{}
	for i := range 1500 {
		kind := int64(i%3) + 1
		disk := from.anyTree(t, int64(i%5))
		switch kind {
		case impl.FsChains:
			disk = from.anyChains(t, int64(i%5))
		case impl.FsExtents:
			disk = from.anyExtents(t, int64(i%5))
		}
		before := slices.Clone(disk)
		list, c := impl.FilesOfSystem(kind, disk)
		want, wantCode := plainFiles(kind, disk)
		is(t, "files", fmt.Sprintf("%q %d", list, c), fmt.Sprintf("%q %d", want, wantCode))
		seen[[2]int64{kind, c}] = true
		for _, to := range systemKinds() {
			blocks := []int64{4, 8, 16, 60, 128}[from.below(5)]
			after, c := impl.ConvertSystem(kind, disk, to, blocks)
			wantDisk, convertCode := []string(nil), wantCode
			if wantCode == impl.OK {
				wantDisk, convertCode = plainSystem(to, blocks, want)
			}
			is(t, "converted", outcome(after, c), outcome(wantDisk, convertCode))
			if c == impl.OK {
				hasFiles(t, "converted", to, after, want...)
			}
		}
		is(t, "argument", disk, before)
	}
	for _, r := range [][2]int64{{1, impl.OK}, {1, impl.ErrFormat}, {1, impl.ErrRange}, {1, impl.ErrState}, {1, impl.ErrDamaged}, {1, impl.ErrFull}, {2, impl.OK}, {2, impl.ErrDamaged}, {3, impl.OK}, {3, impl.ErrDamaged}, {3, impl.ErrState}} {
		is(t, fmt.Sprint("kind and code ", r), seen[r], true)
	}
}

func TestP23MakingByHand(t *testing.T) {
	list := []impl.File{{Name: "A", Data: "alpha"}, {Name: "LETTER", Data: "a text of thirty-three characters"}}
	disk, c := impl.MakeSystem(impl.FsChains, 16, list)
	want, _ := impl.FormatChains(16, 32)
	want, _ = impl.WriteChain(want, list[0])
	want, _ = impl.WriteChain(want, list[1])
	diskIs(t, "chains", disk, c, want)
	disk, c = impl.MakeSystem(impl.FsExtents, 16, list)
	want, _ = impl.FormatExtents(16, 32)
	want, _ = impl.WriteExtents(want, list[0])
	want, _ = impl.WriteExtents(want, list[1])
	diskIs(t, "extents", disk, c, want)
	disk, c = impl.MakeSystem(impl.FsTrees, 16, list)
	want, _ = impl.FormatTree(16)
	want, _ = impl.WriteTree(want, "A", "alpha")
	want, _ = impl.WriteTree(want, "LETTER", list[1].Data)
	diskIs(t, "trees", disk, c, want)
	for _, blocks := range []int64{8, 16, 127, 128} {
		chains, _ := impl.FormatChains(blocks, 32)
		extents, _ := impl.FormatExtents(blocks, 32)
		tree, _ := impl.FormatTree(blocks)
		for i, empty := range [][]string{chains, extents, tree} {
			for _, none := range [][]impl.File{nil, {}} {
				disk, c := impl.MakeSystem(int64(i)+1, blocks, none)
				diskIs(t, "no files", disk, c, empty)
			}
		}
	}
}

// invalidFiles are lists of files that are not valid.
func invalidFiles() [][]impl.File {
	list := [][]impl.File{manyFiles(17), manyFiles(26), named("A", "A"), named("B", "A"), named("a"), named("A", "b"), named(""), named("A/B"), named("ABCDEFGHI"), named("A", "B", "B"), named("A", "C", "B"), {{Name: "A", Data: strings.Repeat("x", 513)}}, {{Name: "A"}, {Name: "B", Data: strings.Repeat("x", 5000)}}, {{Name: "A", Data: "1"}, {Name: "A", Data: "2"}}, {{}}}
	for _, s := range oddStrings() {
		if !impl.IsName(s) {
			list = append(list, named(s), named("A", s))
		}
	}
	return list
}

func TestP23MakingWithErrors(t *testing.T) {
	for _, kind := range systemKinds() {
		for _, list := range invalidFiles() {
			for _, blocks := range []int64{16, 128, 0, -1} {
				disk, c := impl.MakeSystem(kind, blocks, list)
				noDisk(t, "no files "+brief(list), disk, c, impl.ErrInvalid)
			}
		}
		least := map[int64]int64{1: 8, 2: 8, 3: 4}[kind]
		for _, blocks := range append([]int64{least - 1, 0, -1, 129, 130, 256, 1 << 32, 1<<32 + 16, math.MinInt64, math.MaxInt64}, 3, -8) {
			for _, list := range [][]impl.File{nil, named("A"), manyFiles(16)} {
				disk, c := impl.MakeSystem(kind, blocks, list)
				noDisk(t, "no size", disk, c, impl.ErrRange)
				disk, c = impl.ConvertSystem(kind, systemWith(t, kind, 16, "A 5"), kind, blocks)
				noDisk(t, "no size", disk, c, impl.ErrRange)
			}
		}
		for _, blocks := range []int64{least, least + 1, 127, 128} {
			disk, c := impl.MakeSystem(kind, blocks, named("A"))
			is(t, "a size", []int64{int64(len(disk)), c}, []int64{blocks, impl.OK})
		}
	}
}

// Files that fill a disk, and one byte, one block or one file more
func TestP23FullDisks(t *testing.T) {
	for _, r := range []struct {
		kind, blocks int64
		fits         []string
		full         [][]string
	}{
		// 8 blocks, of which 5 are data blocks, and an entry
		{1, 8, []string{"A 160"}, [][]string{{"A 161"}, {"A 160", "B 0"}, {"A 512"}}},
		// 24 blocks, of which 19 or 20 are data blocks, and 3 entries
		{1, 24, []string{"A 320", "B 32", "C 288"}, [][]string{{"A 320", "B 33", "C 288"}, {"A 320", "B 32", "C 289"}, {"A 320", "B 32", "C 288", "D 0"}}},
		{1, 24, []string{"A 1", "B 0", "C 512"}, [][]string{{"A 0", "B 0", "C 0", "D 0"}}},
		// 8 blocks, of which 6 are data blocks, and 2 entries
		{2, 8, []string{"A 128", "B 64"}, [][]string{{"A 128", "B 65"}, {"A 129", "B 64"}, {"A 128", "B 64", "C 0"}}},
		{2, 8, []string{"A 192"}, [][]string{{"A 193"}, {"A 192", "B 0"}}},
		// 3 blocks for entries and data, of which each file needs one more
		{3, 4, []string{"A 52"}, [][]string{{"A 53"}, {"A 26", "B 26"}, {"A 52", "B 0"}}},
		{3, 4, []string{"A 0", "B 0", "C 0"}, [][]string{{"A 0", "B 0", "C 1"}, {"A 0", "B 0", "C 0", "D 0"}}},
		{3, 23, []string{"A 512", "B 0"}, [][]string{{"A 512", "B 1"}, {"A 512", "B 0", "C 0"}}},
	} {
		list := filesOf(r.fits...)
		disk, c := impl.MakeSystem(r.kind, r.blocks, list)
		want, _ := plainSystem(r.kind, r.blocks, list)
		diskIs(t, "full "+brief(r.fits), disk, c, want)
		hasFiles(t, "full", r.kind, disk, list...)
		for from := range int64(3) {
			other := systemWith(t, from+1, 128, r.fits...)
			disk, c := impl.ConvertSystem(from+1, other, r.kind, r.blocks)
			diskIs(t, "full", disk, c, want)
			for _, texts := range r.full {
				disk, c := impl.MakeSystem(r.kind, r.blocks, filesOf(texts...))
				noDisk(t, "too much "+brief(texts), disk, c, impl.ErrFull)
				other := systemWith(t, from+1, 128, texts...)
				disk, c = impl.ConvertSystem(from+1, other, r.kind, r.blocks)
				noDisk(t, "too much "+brief(texts), disk, c, impl.ErrFull)
			}
		}
	}
	// The most files with the most bytes fit nowhere, and the most files everywhere.
	most, some := []string{}, []string{}
	for n := range 16 {
		most, some = append(most, fmt.Sprint("N", n+10, " 512")), append(some, fmt.Sprint("N", n+10, " 150"))
	}
	for _, kind := range systemKinds() {
		disk, c := impl.MakeSystem(kind, 128, filesOf(most...))
		noDisk(t, "too much", disk, c, impl.ErrFull)
		hasFiles(t, "the most files", kind, systemWith(t, kind, 128, some...), filesOf(some...)...)
	}
}

func TestP23ConversionFromEachKindToEachKind(t *testing.T) {
	list := []impl.File{{Name: "A", Data: "alpha"}, {Name: "B"}, {Name: "GAME", Data: strings.Repeat("0123456789", 14)}, {Name: "Z_9", Data: "\x00\xff\x00"}}
	for _, first := range systemKinds() {
		disk, c := impl.MakeSystem(first, 40, list)
		code(t, "make", c, impl.OK)
		for _, second := range systemKinds() {
			other, c := impl.ConvertSystem(first, disk, second, 64)
			code(t, "convert", c, impl.OK)
			hasFiles(t, "converted", second, other, list...)
			kind, c := impl.GuessSystem(other)
			is(t, "its kind", []int64{kind, c}, []int64{second, impl.OK})
			again, c := impl.ConvertSystem(second, other, first, 40)
			diskIs(t, "and back", again, c, disk)
		}
	}
	// Blocks of other sizes become blocks of 32 bytes.
	for _, size := range []int64{8, 16, 32} {
		chains, extents := chainsWith(t, 100, size, "A 40", "B 0", "C 90"), newExtents(t, 100, size)
		for _, f := range []string{"C 90", "B 0", "A 40"} {
			extents = wroteExtents(t, extents, f)
		}
		for _, to := range systemKinds() {
			want := systemWith(t, to, 30, "A 40", "B 0", "C 90")
			disk, c := impl.ConvertSystem(impl.FsChains, chains, to, 30)
			diskIs(t, "chains of another size", disk, c, want)
			disk, c = impl.ConvertSystem(impl.FsExtents, extents, to, 30)
			diskIs(t, "extents of another size", disk, c, want)
		}
	}
}

func TestP23ConversionOfAnyFiles(t *testing.T) {
	from := source(601)
	for range 300 {
		list := from.files()
		kind := from.below(3) + 1
		disk, c := impl.MakeSystem(kind, 128, list)
		want, wantCode := plainSystem(kind, 128, list)
		is(t, "made", outcome(disk, c), outcome(want, wantCode))
		for i := 0; i < 4 && c == impl.OK; i++ {
			to := from.below(3) + 1
			hasFiles(t, "still the same", kind, disk, list...)
			disk, c = impl.ConvertSystem(kind, disk, to, 128)
			kind = to
		}
		is(t, "converted or full", c == impl.OK || c == impl.ErrFull, true)
	}
}

// files returns a valid list of files.
func (s *source) files() []impl.File {
	list := []impl.File{}
	for name := 'A'; name <= 'Z' && len(list) < 16; name++ {
		if s.below(4) == 0 {
			list = append(list, impl.File{Name: string(name) + []string{"", "1", "_LONG_NA"[:s.below(8)]}[s.below(3)], Data: s.bytes([]int{0, 1, 26, 27, 32, 128, 129, int(s.below(300))}[s.below(8)])})
		}
	}
	return list
}

func TestP23ErrorsOfConversion(t *testing.T) {
	good := systemWith(t, 1, 16, "A 5")
	malformed := withEntry(good, 1, entryOf("?"))
	for _, r := range []struct {
		from   int64
		disk   []string
		to     int64
		blocks int64
		want   int64
	}{
		{0, nil, 0, 0, impl.ErrInvalid}, {4, good, 1, 16, impl.ErrInvalid}, {1, good, 4, 16, impl.ErrInvalid}, {1, malformed, 4, 16, impl.ErrInvalid}, {2, good, 0, 16, impl.ErrInvalid}, {2, nil, 4, 16, impl.ErrInvalid}, {4, nil, 2, 16, impl.ErrInvalid}, {0, malformed, 2, 0, impl.ErrInvalid},
		{1, nil, 2, 16, impl.ErrInvalid}, {2, nil, 1, 16, impl.ErrFormat}, {3, nil, 1, 16, impl.ErrInvalid}, {3, good, 1, 16, impl.ErrDamaged}, {3, good, 1, 0, impl.ErrDamaged},
		{1, malformed, 2, 16, impl.ErrFormat}, {1, malformed, 2, 0, impl.ErrFormat}, {2, malformed, 2, 129, impl.ErrFormat},
		{1, good, 1, 7, impl.ErrRange}, {1, good, 2, 7, impl.ErrRange}, {1, good, 3, 3, impl.ErrRange}, {1, good, 3, 129, impl.ErrRange},
		{1, withEntry(good, 1, entryOf("A 0 0")), 3, 0, impl.ErrFull},
		{1, good, 3, 4, impl.OK}, {1, good, 1, 16, impl.OK},
	} {
		disk, c := impl.ConvertSystem(r.from, r.disk, r.to, r.blocks)
		code(t, fmt.Sprint("convert ", r.from, r.to, r.blocks), c, r.want)
		is(t, "a disk", int64(len(disk)) == r.blocks, r.want == impl.OK || r.blocks == 0)
	}
}

func TestP23Guessing(t *testing.T) {
	guesses := func(what string, disk []string, want, wantCode int64) {
		t.Helper()
		kind, c := impl.GuessSystem(disk)
		is(t, what, []int64{kind, c}, []int64{want, wantCode})
	}
	for _, l := range chainShapes() {
		disk := chainsWith(t, l.Blocks, l.Size, "A 9")
		guesses("chains", disk, impl.FsChains, impl.OK)
		guesses("chains with problems", patched(disk, int(l.Size), strings.Repeat("\xff", int((l.Blocks-1)*l.Size))), impl.FsChains, impl.OK)
		disk[0] = disk[0][:5] + "?" + disk[0][6:]
		guesses("no header", disk, 0, impl.ErrNotFound)
	}
	for _, l := range extentShapes() {
		disk := wroteExtents(t, newExtents(t, l.Blocks, l.Size), "A 9")
		guesses("extents", disk, impl.FsExtents, impl.OK)
		guesses("extents with problems", patched(disk, int(l.Size), strings.Repeat("\xff", int((l.Blocks-1)*l.Size))), impl.FsExtents, impl.OK)
		disk[0] = disk[0][:5] + "?" + disk[0][6:]
		guesses("no header", disk, 0, impl.ErrNotFound)
	}
	for _, blocks := range []int64{4, 5, 8, 16, 127, 128} {
		disk := newTree(t, blocks)
		guesses("an empty tree", disk, impl.FsTrees, impl.OK)
		disk = entered(t, disk, "A 5")
		guesses("a tree", disk, impl.FsTrees, impl.OK)
		guesses("a tree with a directory", entered(t, disk, "D/"), impl.FsTrees, impl.OK)
		x := plainTreeOf(disk)
		x.tear(2)
		guesses("a tree with a problem", x.disk(), 0, impl.ErrNotFound)
		x = plainTreeOf(disk)
		x.mark(true, int(blocks)-1)
		guesses("a tree with a mark too much", x.disk(), 0, impl.ErrNotFound)
	}
	guesses("a tree with other bytes in free blocks", append(sampleTree()[:15:15], strings.Repeat("x", 32)), impl.FsTrees, impl.OK)
	for _, disk := range [][]string{nil, {}, {""}, {"x"}, oddStrings(), make([]string, 16), make([]string, 100000), slices.Repeat([]string{zeros(32)}, 16), newChains(t, 16, 8)[1:], newTree(t, 4)[:3], newTree(t, 16)[1:], newExtents(t, 16, 32)[:15], newChains(t, 8, 32)[:7]} {
		guesses("none "+brief(disk), disk, 0, impl.ErrNotFound)
	}
	// The kinds differ in the first bytes of block 0, so that no disk has two of them.
	for _, kind := range systemKinds() {
		disk := systemWith(t, kind, 16, "A 5")
		_, chains := impl.LayoutOf(disk)
		_, extents := impl.ExtentsOn(disk)
		tree := len(impl.CheckTree(disk))
		is(t, "one kind", []bool{chains == impl.OK, extents == impl.OK, tree == 0}, []bool{kind == 1, kind == 2, kind == 3})
	}
}

func TestP23SameFiles(t *testing.T) {
	lists := [][]impl.File{nil, named("A"), named("B"), named("A", "B"), named("B", "A"), named("A", "A"), named("a", ""), {{Name: "A", Data: "1"}}, {{Name: "A", Data: "2"}}, {{Name: "A", Data: "1"}, {Name: "B"}}, {{Data: "A"}}, {{}}, {{}, {}}, manyFiles(16), manyFiles(17), manyFiles(26), {{Name: "A", Data: strings.Repeat("x", 1000)}}, {{Name: "A", Data: strings.Repeat("x", 999) + "y"}}}
	for i, a := range lists {
		for j, b := range lists {
			is(t, "the same "+brief(a)+brief(b), impl.SameFiles(a, slices.Clone(b)), i == j)
		}
	}
	is(t, "nil and empty", impl.SameFiles(nil, []impl.File{}) && impl.SameFiles([]impl.File{}, nil), true)
}

// joins requires the files of two lists, in both orders, and unjoined an error.
func joins(t *testing.T, what string, a, b []impl.File, want ...impl.File) {
	t.Helper()
	for range 2 {
		list, c := impl.JoinFiles(a, b)
		code(t, what, c, impl.OK)
		if !slices.Equal(list, want) {
			t.Errorf("%q: got %s, want %s", what, brief(list), brief(want))
		}
		a, b = b, a
	}
}

func unjoined(t *testing.T, what string, a, b []impl.File, want int64) {
	t.Helper()
	for range 2 {
		list, c := impl.JoinFiles(a, b)
		is(t, what, []int64{int64(len(list)), c}, []int64{0, want})
		a, b = b, a
	}
}

func TestP23JoinedFiles(t *testing.T) {
	ones := []impl.File{{Name: "A", Data: "1"}, {Name: "C", Data: ""}, {Name: "E", Data: "5"}}
	joins(t, "neither", nil, []impl.File{})
	joins(t, "one list", ones, nil, ones...)
	joins(t, "equal lists", ones, slices.Clone(ones), ones...)
	joins(t, "names between", ones, named("B", "D", "F"), impl.File{Name: "A", Data: "1"}, impl.File{Name: "B"}, impl.File{Name: "C"}, impl.File{Name: "D"}, impl.File{Name: "E", Data: "5"}, impl.File{Name: "F"})
	joins(t, "names before and behind", named("M", "N"), named("A", "B", "Z"), named("A", "B", "M", "N", "Z")...)
	joins(t, "names behind", named("A", "B"), named("C", "D"), named("A", "B", "C", "D")...)
	joins(t, "names that begin alike", named("A", "A0", "AA"), named("A9", "A_", "B"), named("A", "A0", "A9", "AA", "A_", "B")...)
	joins(t, "files of both", []impl.File{{Name: "A", Data: "1"}, {Name: "B", Data: "2"}}, []impl.File{{Name: "B", Data: "2"}, {Name: "C", Data: "3"}}, impl.File{Name: "A", Data: "1"}, impl.File{Name: "B", Data: "2"}, impl.File{Name: "C", Data: "3"})
	all := manyFiles(16)
	joins(t, "sixteen of both", all, all, all...)
	joins(t, "sixteen of one", all, nil, all...)
	joins(t, "sixteen together", all[:9], all[7:], all...)
	more := manyFiles(24)
	unjoined(t, "seventeen together", more[:16], more[16:17], impl.ErrFull)
	unjoined(t, "seventeen that overlap", more[:9], more[8:17], impl.ErrFull)
	unjoined(t, "many", more[:12], more[12:], impl.ErrFull)
	unjoined(t, "other Data", ones, []impl.File{{Name: "A", Data: "9"}}, impl.ErrExists)
	unjoined(t, "no Data", ones, named("A"), impl.ErrExists)
	unjoined(t, "more Data", ones, []impl.File{{Name: "E", Data: "5\x00"}}, impl.ErrExists)
	unjoined(t, "other Data of the last file", ones, []impl.File{{Name: "A", Data: "1"}, {Name: "B", Data: "9"}, {Name: "E", Data: "9"}}, impl.ErrExists)
	for _, at := range []int{1, 8, 15} {
		other := slices.Clone(more[at : at+8])
		other[0].Data = "!"
		unjoined(t, "other Data, and too many files", more[:16], append(other[:1:1], more[16:20]...), impl.ErrExists)
	}
	early := append(named("A", "B", "C", "D"), more[15])
	early[4].Data = "!"
	unjoined(t, "other Data behind too many files", more[:16], early, impl.ErrExists)
	for _, wrong := range invalidFiles() {
		for _, good := range [][]impl.File{nil, ones, all, wrong} {
			unjoined(t, "not valid "+brief(wrong), wrong, good, impl.ErrInvalid)
		}
	}
}

// changesAre requires the names of files that differ, in both orders.
func changesAre(t *testing.T, what string, a, b []impl.File, want ...string) {
	t.Helper()
	for range 2 {
		names, ok := impl.ChangedFiles(a, b)
		if !ok || !slices.Equal(names, want) {
			t.Errorf("%q: got %q %v, want %q", what, names, ok, want)
		}
		a, b = b, a
	}
}

func TestP23ChangedFiles(t *testing.T) {
	ones := []impl.File{{Name: "A", Data: "1"}, {Name: "C", Data: ""}, {Name: "E", Data: "5"}}
	changesAre(t, "neither", nil, []impl.File{})
	changesAre(t, "one list", ones, nil, "A", "C", "E")
	changesAre(t, "equal lists", ones, slices.Clone(ones))
	changesAre(t, "names between", ones, named("B", "D", "F"), "A", "B", "C", "D", "E", "F")
	changesAre(t, "names that are in both", ones, named("A", "C", "F"), "A", "E", "F")
	changesAre(t, "other Data", ones, []impl.File{{Name: "A", Data: "1"}, {Name: "C", Data: "\x00"}, {Name: "E", Data: "5"}}, "C")
	changesAre(t, "the last one", ones, ones[:2], "E")
	changesAre(t, "the first one", ones, ones[1:], "A")
	changesAre(t, "names that begin alike", named("A", "AA"), named("A0", "AA", "A_"), "A", "A0", "A_")
	all := manyFiles(16)
	changesAre(t, "sixteen", all, all)
	names := []string{}
	for _, f := range all {
		names = append(names, f.Name)
	}
	changesAre(t, "sixteen and none", all, nil, names...)
	// All of two long lists, although together they are no list any more
	names = nil
	for n := range 32 {
		names = append(names, fmt.Sprint("N", n+10))
	}
	changesAre(t, "sixteen and sixteen", named(names[:16]...), named(names[16:]...), names...)
	for _, wrong := range invalidFiles() {
		for _, good := range [][]impl.File{nil, ones, all, wrong} {
			for range 2 {
				names, ok := impl.ChangedFiles(wrong, good)
				is(t, "not valid "+brief(wrong), []any{len(names), ok}, []any{0, false})
				wrong, good = good, wrong
			}
		}
	}
}

// Lists differ in the names that changed, and are joined if none of their files has changed.
func TestP23AnyLists(t *testing.T) {
	from := source(602)
	for range 2000 {
		a, b := from.files(), from.files()
		if from.below(2) == 0 {
			b = slices.Clone(a)
			for i := range b {
				if from.below(9) == 0 {
					b[i].Data += "!"
				}
			}
		}
		inA, inB, names := map[string]string{}, map[string]string{}, map[string]bool{}
		for _, f := range a {
			inA[f.Name], names[f.Name] = f.Data, true
		}
		for _, f := range b {
			inB[f.Name], names[f.Name] = f.Data, true
		}
		want, changed, code := []impl.File{}, []string{}, int64(impl.OK)
		for name := range names {
			first, isFirst := inA[name]
			second, isSecond := inB[name]
			if isFirst && isSecond && first != second {
				code = impl.ErrExists
			}
			if isFirst != isSecond || first != second {
				changed = append(changed, name)
			}
			if !isFirst {
				first = second
			}
			want = append(want, impl.File{Name: name, Data: first})
		}
		slices.Sort(changed)
		slices.SortFunc(want, func(a, b impl.File) int { return strings.Compare(a.Name, b.Name) })
		if code == impl.OK && len(want) > 16 {
			code = impl.ErrFull
		}
		changesAre(t, "changed", a, b, changed...)
		if code == impl.OK {
			joins(t, "joined", a, b, want...)
		} else {
			unjoined(t, "not joined", a, b, code)
		}
	}
}

func TestP23Texts(t *testing.T) {
	for text, list := range map[string][]impl.File{
		"":                                 {},
		"A -\n":                            named("A"),
		"A 31\nC -\n":                      {{Name: "A", Data: "1"}, {Name: "C"}},
		"A_9 00ff0a20\nB 2d\n":             {{Name: "A_9", Data: "\x00\xff\n "}, {Name: "B", Data: "-"}},
		"ABCDEFGH -\nABCDEFGI abcd\n":      {{Name: "ABCDEFGH"}, {Name: "ABCDEFGI", Data: "\xab\xcd"}},
		"A " + hexOf("x", 512) + "\n":      {{Name: "A", Data: strings.Repeat("x", 512)}},
		"A 30\nB 31\nC 32\nD -\nE 3\x34\n": {{Name: "A", Data: "0"}, {Name: "B", Data: "1"}, {Name: "C", Data: "2"}, {Name: "D"}, {Name: "E", Data: "4"}},
	} {
		is(t, "text", impl.FilesText(list), text)
		got, ok := impl.ReadFiles(text)
		is(t, "files of "+brief(text), []any{impl.SameFiles(got, list), ok}, []any{true, true})
	}
	is(t, "nil", impl.FilesText(nil), "")
	from := source(603)
	for i := range 400 {
		list := from.files()
		if i < 17 {
			list = manyFiles(i)
		}
		want := ""
		for _, f := range list {
			want += f.Name + " "
			for _, c := range []byte(f.Data) {
				want += fmt.Sprintf("%02x", c)
			}
			if f.Data == "" {
				want += "-"
			}
			want += "\n"
		}
		is(t, "text", impl.FilesText(list), want)
		got, ok := impl.ReadFiles(want)
		is(t, "files", []any{impl.SameFiles(got, list), ok}, []any{true, true})
		// Every change of a character makes another list or none.
		for range 20 {
			if want == "" {
				continue
			}
			at := from.below(int64(len(want)))
			other := want[:at] + string([]byte{"0123456789abcdefABCXYZ_- \n\x00\xff"[from.below(28)]}) + want[at+1:]
			got, ok := impl.ReadFiles(other)
			is(t, "the text of what was read", ok && impl.FilesText(got) != other || !ok && len(got) > 0, false)
			is(t, "other files", ok && impl.SameFiles(got, list), other == want)
		}
	}
	for _, list := range invalidFiles() {
		is(t, "not valid "+brief(list), impl.FilesText(list), "")
	}
}

// hexOf returns the digits of a character that is repeated.
func hexOf(s string, count int) string { return strings.Repeat(fmt.Sprintf("%02x", s), count) }

func TestP23NoTexts(t *testing.T) {
	texts := []string{
		"\n", " ", "-", "A", "A\n", "A ", "A \n", "A -", "A 31", "A  31\n", "A 31 \n", " A 31\n", "A 31\n\n", "\nA 31\n", "A 31\n\nB 32\n", "A 31\nB 32", "A 31\r\n", "A\t31\n",
		"A 3\n", "A 313\n", "A 3g\n", "A 3G\n", "A FF\n", "A Ff\n", "A fF\n", "A 31 32\n", "A 31,\n", "A 0x31\n", "A +31\n",
		"A --\n", "A -31\n", "A 31-\n", "A - \n", "A  -\n", "A -\n-\n", "A -\n ", "- -\n", " -\n", "A-\n", "A 31B 32\n", "A -B -\n",
		"a 31\n", "9 31\n", "A/B 31\n", "ABCDEFGHI 31\n", "\u00c4 31\n", "A\x00 31\n", "A 31\nA 31\n", "A 31\nA 32\n", "B 31\nA 31\n", "A -\nC -\nB -\n",
		"A " + hexOf("x", 513) + "\n", "A " + strings.Repeat("3", 1<<16) + "\n", "A " + hexOf("x", 5000) + "\n", strings.Repeat("A 31\n", 17), strings.Repeat("\n", 1<<16), strings.Repeat("A", 1<<16) + " 31\n", strings.Repeat("A ", 1<<15) + "31\n", "A 31\x00\n", "\xff 31\n", "A \xff\xff\n", "A \uff13\uff11\n",
		impl.FilesText(manyFiles(16)) + "Z -\n", "A -\n" + impl.FilesText(manyFiles(16)),
	}
	for _, s := range append(texts, oddStrings()...) {
		list, ok := impl.ReadFiles(s)
		is(t, "no text "+brief(s), []any{len(list), ok}, []any{0, s == ""})
	}
}
