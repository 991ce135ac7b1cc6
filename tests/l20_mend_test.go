package tests

import (
	"fmt"
	"slices"
	"strconv"
	"strings"
	"testing"

	"loop.example/g00899/impl"
)

// spare follows the words of the document for SpareName.
func (x plainChains) spare(prefix string) (string, int64) {
	if !impl.IsName(prefix) || len(prefix) > 6 {
		return "", impl.ErrInvalid
	}
	for number := range 100 {
		name, taken := fmt.Sprintf("%s%02d", prefix, number), false
		for k := range x.entries {
			e, isUsed := x.used(k)
			taken = taken || isUsed && e.Name == name
		}
		if !taken {
			return name, impl.OK
		}
	}
	return "", impl.ErrFull
}

func (x plainChains) setLink(block int64, link int) { x.all[x.size+int(block)] = byte(link) }

// cut follows the words of the document for cutting a chain.
func (x plainChains) cut(k int, blocks []int64) {
	if len(blocks) > 0 {
		x.setLink(blocks[len(blocks)-1], 255)
	} else {
		x.bytesOf(k)[8] = 0
	}
}

// mendEntries and the three functions behind it change a disk, and return what was counted.
func (x plainChains) mendEntries() (emptied, renamed int64) {
	for k := range x.entries {
		if _, ok := x.entry(k); !ok {
			copy(x.bytesOf(k), zeros(12))
			emptied++
		}
	}
	for k := range x.entries {
		e, isUsed := x.used(k)
		for before := range k {
			other, isOther := x.used(before)
			if isUsed && isOther && other.Name == e.Name {
				name, _ := x.spare("DUP")
				copy(x.bytesOf(k), (name + zeros(8))[:8])
				renamed++
				break
			}
		}
	}
	return emptied, renamed
}

func (x plainChains) mendLinks() (changed int64) {
	for block := range x.data {
		if x.link(block) != 253 {
			x.setLink(int64(block), 253)
			changed++
		}
	}
	for k, w := range x.walks() {
		if w.End != 0 {
			x.cut(k, w.Blocks)
			changed++
		}
	}
	return changed
}

func (x plainChains) mendLengths() (changed int64) {
	for k, w := range x.walks() {
		e, isUsed := x.used(k)
		have, needed := len(w.Blocks), up(int(e.Length), x.size)
		switch {
		case !isUsed || have == needed:
			continue
		case have < needed:
			copy(x.bytesOf(k)[9:], []byte{byte(have * x.size / 256), byte(have * x.size % 256)})
		default:
			x.cut(k, w.Blocks[:needed])
		}
		changed++
	}
	return changed
}

// place returns the entry for a file of a lost chain, or -1.
func (x plainChains) place() (int, int64) {
	deleted := -1
	for k := range x.entries {
		e, ok := x.entry(k)
		if !ok {
			return 0, impl.ErrFormat
		}
		if e == (impl.ChainEntry{}) {
			return k, impl.OK
		}
		if e.Deleted && deleted < 0 {
			deleted = k
		}
	}
	return deleted, impl.OK
}

func (x plainChains) mendLost() (found, freed, code int64) {
	for _, chain := range x.lostChains() {
		k, c := x.place()
		if c != impl.OK {
			return 0, 0, c
		}
		count := 0
		if k >= 0 {
			name, _ := x.spare("LOST")
			count = min(len(chain), 512/x.size)
			copy(x.bytesOf(k), entryOf(fmt.Sprint(name, " ", chain[0], " ", count*x.size)))
			x.setLink(chain[count-1], 255)
			found++
		}
		for _, block := range chain[count:] {
			x.setLink(block, 0)
			freed++
		}
	}
	return found, freed, impl.OK
}

func (x plainChains) mendAll() (count impl.Mended) {
	count.Entries, count.Names = x.mendEntries()
	count.Links = x.mendLinks()
	count.Lengths = x.mendLengths()
	count.Found, count.Freed, _ = x.mendLost()
	return count
}

func (x plainChains) sound() []impl.File {
	list := []impl.File{}
	for k, w := range x.walks() {
		if e, isUsed := x.used(k); isUsed && len(x.entryProblems(k)) == 0 {
			data := ""
			for _, block := range w.Blocks {
				data += string(x.all[int(block)*x.size:][:x.size])
			}
			list = append(list, impl.File{Name: e.Name, Data: data[:e.Length]})
		}
	}
	return list
}

func (x plainChains) compact() ([]string, int64) {
	if len(x.problems()) > 0 {
		return nil, impl.ErrState
	}
	disk, _ := impl.FormatChains(int64(x.blocks), int64(x.size))
	for block := x.data; block < x.blocks; block++ {
		if x.link(block) == 254 {
			disk = withLinks(disk, [2]int{block, 254})
		}
	}
	for _, f := range x.sound() {
		disk, _ = plainChainsOf(disk).write(f.Name, f.Data)
	}
	return disk, impl.OK
}

// mendsAre compares all functions with those that follow the words of the document.
func mendsAre(t *testing.T, disk []string) {
	t.Helper()
	for _, prefix := range []string{"DUP", "LOST", "A"} {
		name, c := impl.SpareName(disk, prefix)
		want, wantCode := plainChainsOf(disk).spare(prefix)
		textIs(t, "spare name", name, c, want, wantCode)
	}
	x := plainChainsOf(disk)
	after, emptied, renamed, c := impl.MendEntries(disk)
	wantEmptied, wantRenamed := x.mendEntries()
	diskIs(t, "entries", after, c, x.disk())
	is(t, "entries", []int64{emptied, renamed}, []int64{wantEmptied, wantRenamed})
	x = plainChainsOf(disk)
	after, links, c := impl.MendLinks(disk)
	is(t, "links", links, x.mendLinks())
	diskIs(t, "links", after, c, x.disk())
	x = plainChainsOf(disk)
	after, lengths, c := impl.MendLengths(disk)
	is(t, "lengths", lengths, x.mendLengths())
	diskIs(t, "lengths", after, c, x.disk())
	x = plainChainsOf(disk)
	after, found, freed, c := impl.MendLost(disk)
	wantFound, wantFreed, wantCode := x.mendLost()
	is(t, "lost", []int64{found, freed, c}, []int64{wantFound, wantFreed, wantCode})
	if c == impl.OK {
		diskIs(t, "lost", after, c, x.disk())
	}
	is(t, "lost: disk", len(after) > 0, c == impl.OK)
	x = plainChainsOf(disk)
	after, count, c := impl.MendChains(disk)
	is(t, "count", count, x.mendAll())
	diskIs(t, "mended", after, c, x.disk())
	sound, c := impl.SoundFiles(disk)
	wantSound := plainChainsOf(disk).sound()
	slices.SortFunc(wantSound, func(a, b impl.File) int { return strings.Compare(a.Name, b.Name) })
	is(t, "sound", fmt.Sprintf("%q %d", sound, c), fmt.Sprintf("%q %d", wantSound, impl.OK))
	small, c := impl.CompactChains(disk)
	wantSmall, wantCode := plainChainsOf(disk).compact()
	is(t, "compact", fmt.Sprintf("%q %d", small, c), fmt.Sprintf("%q %d", wantSmall, wantCode))
}

// mendedIsRight requires that a disk is mended without problems, once and for all, and that files without problems are kept.
func mendedIsRight(t *testing.T, disk []string) {
	t.Helper()
	after, count, c := impl.MendChains(disk)
	code(t, "mended", c, impl.OK)
	chainProblemsAre(t, "mended", after, "")
	is(t, "nothing to mend", count == impl.Mended{}, impl.CleanChains(disk))
	again, count, c := impl.MendChains(after)
	diskIs(t, "mended again", again, c, after)
	is(t, "nothing to mend again", count, impl.Mended{})
	sound, _ := impl.SoundFiles(disk)
	kept, c := impl.KeptFiles(disk, after)
	want := []string{}
	for _, f := range sound {
		want = append(want, f.Name)
		reads(t, "kept", after, f.Name, f.Data)
	}
	namesAre(t, "all of them are kept", kept, c, want...)
	// No block that contained something is lost without a count, or has other bytes.
	l, _ := impl.LayoutOf(disk)
	is(t, "data blocks", slices.Equal(after[l.Data:], disk[l.Data:]), true)
	free, _ := impl.FreeChains(disk)
	left, _ := impl.FreeChains(after)
	owners, _ := impl.OwnersOf(disk)
	owned := 0
	for _, block := range free {
		if owners[block] >= 0 {
			owned++
		}
	}
	_, firstCount, _ := impl.MendChains(disk)
	is(t, "free blocks", int64(len(left)), int64(len(free)-owned)+firstCount.Freed)
}

func TestP21AnyDisks(t *testing.T) {
	from := source(410)
	for i := range 1500 {
		disk := from.messedChains(t)
		if i%3 == 0 {
			disk = from.anyChains(t, int64(i%7))
		}
		before := slices.Clone(disk)
		mendsAre(t, disk)
		mendedIsRight(t, disk)
		is(t, "argument", disk, before)
	}
}

func TestP21NoDisks(t *testing.T) {
	start := func(blocks, size int) string { return chainStart(blocks, min(16, blocks/8), size) }
	good := chainsWith(t, 16, 16, "A 5")
	for _, disk := range noDisks(start) {
		for _, prefix := range []string{"DUP", "dup", "TOOLONG"} {
			codesAre(t, "no disk "+brief(disk), impl.ErrInvalid, stage11Mends(disk, good, prefix)...)
		}
	}
	for _, l := range chainShapes() {
		disk := chainsWith(t, l.Blocks, l.Size, "A 5")
		for i, s := range otherHeaders(int(l.Blocks), int(l.Entries), int(l.Size)) {
			if i%211 > 0 {
				continue
			}
			disk[0] = s
			for _, prefix := range []string{"DUP", "dup", "TOOLONG"} {
				codesAre(t, "no header "+brief(s), impl.ErrFormat, stage11Mends(disk, good, prefix)...)
			}
		}
	}
}

// spareIs requires a spare name.
func spareIs(t *testing.T, disk []string, prefix, want string, wantCode int64) {
	t.Helper()
	name, c := impl.SpareName(disk, prefix)
	textIs(t, "spare name "+brief(prefix), name, c, want, wantCode)
}

func TestP21SpareNames(t *testing.T) {
	disk := chainsLike(t, "", "DUP00 0 0", "DUP01 0 0 gone", "B00 0 0", "?", "LOST01 0 0", "A01 0 0")
	for _, r := range [][2]string{{"DUP", "DUP01"}, {"LOST", "LOST00"}, {"A", "A00"}, {"B", "B01"}, {"C", "C00"}, {"Z_9", "Z_900"}, {"ABCDEF", "ABCDEF00"}, {"DUP0", "DUP000"}, {"LOST01", "LOST0100"}} {
		spareIs(t, disk, r[0], r[1], impl.OK)
	}
	for _, prefix := range append([]string{"", "a", "0", "_", "9A", "dup", "DUP ", " DUP", "D-", "DUP\x00", "\u00c4", "ABCDEFG", "ABCDEFGH", "ABCDEFGHI", "\xff", "AB\n"}, oddStrings()...) {
		if len(prefix) > 6 || !impl.IsName(prefix) {
			spareIs(t, disk, prefix, "", impl.ErrInvalid)
		}
	}
	// A Name that only a deleted or a malformed entry has is not taken.
	for _, text := range []string{"DUP00 0 0 gone", "DUP00 11 5 gone"} {
		spareIs(t, chainsLike(t, "", text), "DUP", "DUP00", impl.OK)
		spareIs(t, chainsLike(t, "", text, "DUP00 0 0"), "DUP", "DUP01", impl.OK)
	}
	for _, bytes := range []string{"DUP00\x00\x00\x00\x00\x00\x00\x03", "DUP00\x00\x00\x01\x00\x00\x00\x01", "DUP00\x00\x00\x00\x0b\x02\x01\x01", "DUP00" + zeros(7)} {
		spareIs(t, withEntry(newChains(t, 64, 16), 0, bytes), "DUP", "DUP00", impl.OK)
	}
	spareIs(t, chainsLike(t, "11-12-11", "DUP00 200 0", "DUP01 11 9", "DUP02 11 512"), "DUP", "DUP03", impl.OK)
}

// As many digits are taken as there are entries, which are fewer than a hundred.
func TestP21ManySpareNames(t *testing.T) {
	disk := newChains(t, 128, 16)
	for n := range 16 {
		spareIs(t, disk, "DUP", fmt.Sprintf("DUP%02d", n), impl.OK)
		disk = withEntry(disk, (n*7)%16, entryOf(fmt.Sprintf("DUP%02d 0 0", n)))
	}
	spareIs(t, disk, "DUP", "DUP16", impl.OK)
	spareIs(t, disk, "LOST", "LOST00", impl.OK)
	for n := range 16 {
		spareIs(t, withEntry(disk, (n*7)%16, entryOf("A 0 0")), "DUP", fmt.Sprintf("DUP%02d", n), impl.OK)
		spareIs(t, withEntry(disk, (n*7)%16, entryOf("DUP99 0 0")), "DUP", fmt.Sprintf("DUP%02d", n), impl.OK)
	}
}

// mendCase is a disk, a disk that it becomes, and the counts. Blocks and entries are those of chainsLike.
type mendCase struct {
	links     string
	entries   []string
	wantLinks string
	want      []string
	counts    []int64
}

// mendedAre requires what becomes of disks; a missing list of entries means that they stay, and the links "=" that these do.
func mendedAre(t *testing.T, cases []mendCase, mend func(disk []string) ([]string, []int64, int64)) {
	t.Helper()
	for _, r := range cases {
		if r.want == nil {
			r.want = r.entries
		}
		if r.wantLinks == "=" {
			r.wantLinks = r.links
		}
		disk := chainsLike(t, r.links, r.entries...)
		what := "mend " + r.links + brief(r.entries)
		after, counts, c := mend(disk)
		diskIs(t, what, after, c, chainsLike(t, r.wantLinks, r.want...))
		is(t, what, counts, r.counts)
		mendsAre(t, disk)
		mendedIsRight(t, disk)
	}
}

func TestP21Entries(t *testing.T) {
	mendedAre(t, []mendCase{
		{"", nil, "=", nil, []int64{0, 0}},
		{"11-12-E", []string{"A 11 32", "B 0 0", "C 5 5 gone"}, "=", nil, []int64{0, 0}},
		{"11-12-E", []string{"?"}, "=", []string{""}, []int64{1, 0}},
		{"", []string{"A 0 0", "?", "", "?", "B 0 0 gone", "?", "?", "?"}, "=", []string{"A 0 0", "", "", "", "B 0 0 gone"}, []int64{5, 0}},
		{"", []string{"A 0 0", "A 0 0"}, "=", []string{"A 0 0", "DUP00 0 0"}, []int64{0, 1}},
		{"", []string{"A 0 0", "A 0 0", "A 0 0"}, "=", []string{"A 0 0", "DUP00 0 0", "DUP01 0 0"}, []int64{0, 2}},
		{"", []string{"A 0 0", "B 0 0", "B 0 0", "A 0 0"}, "=", []string{"A 0 0", "B 0 0", "DUP00 0 0", "DUP01 0 0"}, []int64{0, 2}},
		{"", []string{"?", "A 0 0", "?", "A 0 0", "?"}, "=", []string{"", "A 0 0", "", "DUP00 0 0"}, []int64{3, 1}},
		{"", []string{"A 0 513", "A 0 0", "A 0 0"}, "=", []string{"", "A 0 0", "DUP00 0 0"}, []int64{1, 1}},
		{"", []string{"A 0 0", "DUP00 0 513", "A 0 0"}, "=", []string{"A 0 0", "", "DUP00 0 0"}, []int64{1, 1}},
		{"", []string{"A 0 0 gone", "A 0 0", "A 0 0 gone", "A 0 0"}, "=", []string{"A 0 0 gone", "A 0 0", "A 0 0 gone", "DUP00 0 0"}, []int64{0, 1}},
		{"", []string{"DUP00 0 0", "A 0 0", "A 0 0"}, "=", []string{"DUP00 0 0", "A 0 0", "DUP01 0 0"}, []int64{0, 1}},
		{"", []string{"A 0 0", "A 0 0", "DUP00 0 0", "A 0 0", "DUP02 0 0"}, "=", []string{"A 0 0", "DUP01 0 0", "DUP00 0 0", "DUP03 0 0", "DUP02 0 0"}, []int64{0, 2}},
		{"", []string{"DUP00 0 0", "DUP00 0 0"}, "=", []string{"DUP00 0 0", "DUP01 0 0"}, []int64{0, 1}},
		{"", []string{"DUP01 0 0", "DUP01 0 0", "DUP01 0 0"}, "=", []string{"DUP01 0 0", "DUP00 0 0", "DUP02 0 0"}, []int64{0, 2}},
		{"", []string{"DUP00 0 0 gone", "A 0 0", "A 0 0"}, "=", []string{"DUP00 0 0 gone", "A 0 0", "DUP00 0 0"}, []int64{0, 1}},
		{"", []string{"ABCDEFGH 0 0", "ABCDEFGH 0 0"}, "=", []string{"ABCDEFGH 0 0", "DUP00 0 0"}, []int64{0, 1}},
		// Everything else in an entry stays.
		{"11-12-E 10-11", []string{"A 11 32", "A 12 300", "?", "A 200 5"}, "=", []string{"A 11 32", "DUP00 12 300", "", "DUP01 200 5"}, []int64{1, 2}},
	}, func(disk []string) ([]string, []int64, int64) {
		after, emptied, renamed, c := impl.MendEntries(disk)
		return after, []int64{emptied, renamed}, c
	})
	twins := newChains(t, 128, 8)
	want := withEntry(twins, 0, entryOf("A 0 0"))
	for k := range 16 {
		twins = withEntry(twins, k, entryOf("A 0 0"))
		if k > 0 {
			want = withEntry(want, k, entryOf(fmt.Sprintf("DUP%02d 0 0", k-1)))
		}
	}
	after, emptied, renamed, c := impl.MendEntries(twins)
	diskIs(t, "sixteen entries", after, c, want)
	is(t, "sixteen entries", []int64{emptied, renamed}, []int64{0, 15})
}

func TestP21Malformed(t *testing.T) {
	for i, bytes := range malformedEntries() {
		disk := chainsWith(t, 64, 16, "A 20", "B 20")
		wrong := withEntry(disk, 2+i%6, bytes)
		after, emptied, renamed, c := impl.MendEntries(wrong)
		diskIs(t, "empty instead of "+brief(bytes), after, c, disk)
		is(t, "one", []int64{emptied, renamed}, []int64{1, 0})
		mendedIsRight(t, wrong)
	}
}

func TestP21Links(t *testing.T) {
	mendedAre(t, []mendCase{
		{"", nil, "=", nil, []int64{0}},
		{"11-12-E 20-E 21-F 22-30 40-B", []string{"A 11 32", "B 0 0", "C 5 5 gone", "", "?"}, "=", nil, []int64{0}},
		// Blocks that are not data blocks
		{"0-F", nil, "", nil, []int64{1}},
		{"10-E 0-11 5-254", nil, "", nil, []int64{3}},
		{"0-1-2-3-4-5-6-7-8-9-10-11", []string{"A 0 0"}, "", nil, []int64{11}},
		{"10-11-E 0-11", []string{"A 11 16"}, "11-E", nil, []int64{2}},
		{"10-11-E", []string{"A 10 16", "B 11 16"}, "11-E", []string{"A 0 16", "B 11 16"}, []int64{2}},
		// At First
		{"", []string{"A 10 16"}, "", []string{"A 0 16"}, []int64{1}},
		{"", []string{"A 64 512"}, "", []string{"A 0 512"}, []int64{1}},
		{"", []string{"A 255 0"}, "", []string{"A 0 0"}, []int64{1}},
		{"11-E", []string{"A 11 16", "B 11 16"}, "=", []string{"A 11 16", "B 0 16"}, []int64{1}},
		{"11-F", []string{"A 11 16"}, "11-E", nil, []int64{1}},
		{"11-R", []string{"A 11 16"}, "11-E", nil, []int64{1}},
		{"11-B", []string{"A 11 16"}, "11-E", nil, []int64{1}},
		{"11-11", []string{"A 11 16"}, "11-E", nil, []int64{1}},
		// Behind some blocks
		{"11-12-10", []string{"A 11 16"}, "11-12-E", nil, []int64{1}},
		{"11-12-64", []string{"A 11 16"}, "11-12-E", nil, []int64{1}},
		{"11-12-13-12", []string{"A 11 16"}, "11-12-13-E", nil, []int64{1}},
		{"11-12-13-11", []string{"A 11 16"}, "11-12-13-E", nil, []int64{1}},
		{"11-12-13-F", []string{"A 11 16"}, "11-12-13-E", nil, []int64{1}},
		{"11-12-E 20-21-12", []string{"A 11 16", "B 20 0"}, "11-12-E 20-21-E", nil, []int64{1}},
		// Entries that cross each other, also where the first one is cut
		{"11-12-F 20-21-12", []string{"A 11 16", "B 20 0"}, "11-12-E 20-21-E", nil, []int64{2}},
		{"11-12-11 20-21-11", []string{"A 11 16", "B 20 0"}, "11-12-E 20-21-E", nil, []int64{2}},
		{"11-12-11 20-21-20 30-31-21", []string{"A 11 16", "B 20 0", "C 30 1", "D 21 1"}, "11-12-E 20-21-E 30-31-E", []string{"A 11 16", "B 20 0", "C 30 1", "D 0 1"}, []int64{4}},
		{"11-12-13-E 20-12 30-31-20", []string{"A 30 48", "B 11 48", "C 20 48"}, "30-31-20-12-13-E 11-E", []string{"A 30 48", "B 11 48", "C 0 48"}, []int64{2}},
		{"11-12-20-21-E 30-12", []string{"A 20 32", "B 30 48", "C 11 64"}, "30-12-E 11-E 20-21-E", nil, []int64{2}},
		// What is not used, and names that are there twice, do not matter.
		{"11-12-F", []string{"A 11 16 gone", "?"}, "=", nil, []int64{0}},
		{"11-12-F 13-F", []string{"A 11 16", "A 13 16"}, "11-12-E 13-E", nil, []int64{2}},
	}, func(disk []string) ([]string, []int64, int64) {
		after, links, c := impl.MendLinks(disk)
		return after, []int64{links}, c
	})
}

// Each link of a block that is not a data block becomes ChReserved.
func TestP21ReservedLinks(t *testing.T) {
	for _, l := range chainShapes() {
		disk := chainsWith(t, l.Blocks, l.Size, "A 9")
		for block := range l.Data {
			for link := range 256 {
				if (int(block)+link)%5 > 0 && link < 252 {
					continue
				}
				after, count, c := impl.MendLinks(withLinks(disk, [2]int{int(block), link}))
				diskIs(t, "reserved", after, c, disk)
				is(t, "one if it is another one", count == 0, link == 253)
			}
		}
	}
}

func TestP21Lengths(t *testing.T) {
	mendedAre(t, []mendCase{
		{"", nil, "=", nil, []int64{0}},
		{"11-12-E", []string{"A 11 32", "B 0 0", "C 5 5 gone", "?", "D 0 5 gone"}, "=", nil, []int64{0}},
		{"11-12-E", []string{"A 11 17"}, "=", nil, []int64{0}},
		// Too few blocks, or none
		{"11-12-E", []string{"A 11 33"}, "=", []string{"A 11 32"}, []int64{1}},
		{"11-12-E", []string{"A 11 512"}, "=", []string{"A 11 32"}, []int64{1}},
		{"", []string{"A 0 1"}, "=", []string{"A 0 0"}, []int64{1}},
		{"", []string{"A 0 512"}, "=", []string{"A 0 0"}, []int64{1}},
		// Too many blocks
		{"11-12-E", []string{"A 11 16"}, "11-E 12-E", nil, []int64{1}},
		{"11-12-E", []string{"A 11 1"}, "11-E 12-E", nil, []int64{1}},
		{"11-12-E", []string{"A 11 0"}, "=", []string{"A 0 0"}, []int64{1}},
		{"11-12-13-14-E", []string{"A 11 32"}, "11-12-E 13-14-E", nil, []int64{1}},
		{"11-E", []string{"A 11 0"}, "=", []string{"A 0 0"}, []int64{1}},
		// Chains that are open, leave the disk or run in circles
		{"11-12-F", []string{"A 11 32"}, "=", nil, []int64{0}},
		{"11-12-F", []string{"A 11 33"}, "=", []string{"A 11 32"}, []int64{1}},
		{"11-12-F", []string{"A 11 16"}, "11-E", nil, []int64{1}},
		{"11-12-R", []string{"A 11 0"}, "=", []string{"A 0 0"}, []int64{1}},
		{"11-12-10", []string{"A 11 300"}, "=", []string{"A 11 32"}, []int64{1}},
		{"11-12-11", []string{"A 11 16"}, "11-E 12-11", nil, []int64{1}},
		{"11-12-11", []string{"A 11 32"}, "=", nil, []int64{0}},
		{"", []string{"A 200 40"}, "=", []string{"A 200 0"}, []int64{1}},
		{"", []string{"A 10 0"}, "=", nil, []int64{0}},
		// Chains that cross: the walks are those before anything is cut.
		{"11-12-13-E 20-13", []string{"A 11 16", "B 20 32"}, "11-E 12-13-E 20-13", []string{"A 11 16", "B 20 16"}, []int64{2}},
		{"11-12-13-E 20-13", []string{"A 11 16", "B 20 16"}, "11-E 12-13-E 20-13", nil, []int64{1}},
		{"11-12-E", []string{"A 11 0", "B 12 16"}, "=", []string{"A 0 0", "B 12 0"}, []int64{2}},
		{"11-12-E", []string{"A 12 0", "B 11 32"}, "=", []string{"A 0 0", "B 11 16"}, []int64{2}},
		// What is not used does not matter, and names that are there twice do not.
		{"11-12-E", []string{"A 11 16 gone", "?", "B 0 5 gone"}, "=", nil, []int64{0}},
		{"11-12-E 13-E", []string{"A 11 16", "A 13 32"}, "11-E 12-E 13-E", []string{"A 11 16", "A 13 16"}, []int64{2}},
		{"11-12-E 10-F", []string{"A 11 16"}, "11-E 12-E 10-F", nil, []int64{1}},
	}, func(disk []string) ([]string, []int64, int64) {
		after, lengths, c := impl.MendLengths(disk)
		return after, []int64{lengths}, c
	})
}

func mendLost(disk []string) ([]string, []int64, int64) {
	after, found, freed, c := impl.MendLost(disk)
	return after, []int64{found, freed}, c
}

func TestP21Lost(t *testing.T) {
	full := []string{"A 0 0", "B 0 0", "C 0 0", "D 0 0", "E 0 0", "F 0 0", "G 0 0", "H 0 0"}
	with := func(entries []string, changes ...string) []string {
		list := slices.Clone(entries)
		for _, text := range changes {
			list[text[0]-'0'] = text[2:]
		}
		return list
	}
	mendedAre(t, []mendCase{
		{"", nil, "=", nil, []int64{0, 0}},
		{"11-12-E 13-B", []string{"A 11 32"}, "=", nil, []int64{0, 0}},
		{"11-E", nil, "=", []string{"LOST00 11 16"}, []int64{1, 0}},
		{"11-R", nil, "11-E", []string{"LOST00 11 16"}, []int64{1, 0}},
		{"20-11-12-E", []string{"A 0 0"}, "=", []string{"A 0 0", "LOST00 20 48"}, []int64{1, 0}},
		{"20-11-12-10", nil, "20-11-12-E", []string{"LOST00 20 48"}, []int64{1, 0}},
		{"20-11-12-100", nil, "20-11-12-E", []string{"LOST00 20 48"}, []int64{1, 0}},
		{"20-11-12-13", nil, "20-11-12-E", []string{"LOST00 20 48"}, []int64{1, 0}},
		{"11-12-E 20-12", []string{"A 11 32"}, "11-12-E 20-E", []string{"A 11 32", "LOST00 20 16"}, []int64{1, 0}},
		// Circles, and chains that meet
		{"20-20", nil, "20-E", []string{"LOST00 20 16"}, []int64{1, 0}},
		{"21-22-20-21", nil, "20-21-22-E", []string{"LOST00 20 48"}, []int64{1, 0}},
		{"30-21-22-20-21", nil, "30-21-22-20-E", []string{"LOST00 30 64"}, []int64{1, 0}},
		{"20-22-23-E 21-22", nil, "20-22-23-E 21-E", []string{"LOST00 20 48", "LOST01 21 16"}, []int64{2, 0}},
		// Several chains, in the order of LostChains
		{"20-21-20 15-E 30-E", nil, "20-21-E 15-E 30-E", []string{"LOST00 15 16", "LOST01 30 16", "LOST02 20 32"}, []int64{3, 0}},
		{"20-E 30-31-E", []string{"A 0 0", "", "B 0 0", ""}, "=", []string{"A 0 0", "LOST00 20 16", "B 0 0", "LOST01 30 32"}, []int64{2, 0}},
		// Names that are there already
		{"20-E 30-E", []string{"LOST00 0 0"}, "=", []string{"LOST00 0 0", "LOST01 20 16", "LOST02 30 16"}, []int64{2, 0}},
		{"20-E 30-E", []string{"", "LOST01 0 0"}, "=", []string{"LOST00 20 16", "LOST01 0 0", "LOST02 30 16"}, []int64{2, 0}},
		{"20-E", []string{"LOST00 0 0 gone"}, "=", []string{"LOST00 0 0 gone", "LOST00 20 16"}, []int64{1, 0}},
		// Empty entries before deleted ones
		{"20-E", []string{"A 5 5 gone", "", "B 0 0 gone"}, "=", []string{"A 5 5 gone", "LOST00 20 16", "B 0 0 gone"}, []int64{1, 0}},
		{"20-E", with(full, "2 C 11 300 gone"), "=", with(full, "2 LOST00 20 16"), []int64{1, 0}},
		{"20-E 30-E", with(full, "2 C 11 30 gone", "7 ABCDEFGH 0 0 gone"), "=", with(full, "2 LOST00 20 16", "7 LOST01 30 16"), []int64{2, 0}},
		{"20-E 30-E", with(full, "2 C 11 30 gone", "7 "), "=", with(full, "2 LOST01 30 16", "7 LOST00 20 16"), []int64{2, 0}},
		// No entry
		{"20-21-E", full, "", nil, []int64{0, 2}},
		{"20-21-20 30-E 40-R", full, "", nil, []int64{0, 4}},
		{"20-21-20 30-31-E 40-R", with(full, "7 "), "30-31-E", with(full, "7 LOST00 30 32"), []int64{1, 3}},
		{"20-21-20 30-31-E 40-R", with(full, "0 A 11 5 gone"), "30-31-E", with(full, "0 LOST00 30 32"), []int64{1, 3}},
		{"11-12-E 20-12", with(full, "0 A 11 32"), "11-12-E", with(full, "0 A 11 32"), []int64{0, 1}},
		// Malformed entries behind the first empty one, or without a lost chain
		{"20-E", []string{"A 0 0", "", "?", "?"}, "=", []string{"A 0 0", "LOST00 20 16", "?", "?"}, []int64{1, 0}},
		{"20-E", []string{"", "?"}, "=", []string{"LOST00 20 16", "?"}, []int64{1, 0}},
		{"20-E 30-E", []string{"", "", "?"}, "=", []string{"LOST00 20 16", "LOST01 30 16", "?"}, []int64{2, 0}},
		{"11-E", []string{"?", "A 11 16", "?"}, "=", nil, []int64{0, 0}},
		{"", []string{"?", "?", "?", "?", "?", "?", "?", "?"}, "=", nil, []int64{0, 0}},
		// Problems of entries stay.
		{"11-12-F 20-E 10-F", []string{"A 11 0", "A 200 0"}, "=", []string{"A 11 0", "A 200 0", "LOST00 20 16"}, []int64{1, 0}},
	}, mendLost)
}

func TestP21LostAndMalformed(t *testing.T) {
	full := []string{"A 0 0", "B 0 0", "C 0 0", "D 0 0", "E 0 0", "F 0 0", "G 0 0", "H 0 0"}
	for k := range 8 {
		for _, gone := range []string{"A 0 0", "A 0 0 gone"} {
			entries := slices.Clone(full)
			entries[0] = gone
			entries[k] = "?"
			after, found, freed, c := impl.MendLost(chainsLike(t, "20-E", entries...))
			noDisk(t, "without an empty entry, all are looked at", after, c, impl.ErrFormat)
			is(t, "no counts", []int64{found, freed}, []int64{0, 0})
			disk := chainsLike(t, "20-B", entries...)
			after, found, freed, c = impl.MendLost(disk)
			diskIs(t, "nothing lost", after, c, disk)
			is(t, "no counts", []int64{found, freed}, []int64{0, 0})
		}
	}
	for _, r := range []struct {
		links   string
		entries []string
	}{
		{"20-E", []string{"?"}},
		{"20-E", []string{"?", "A 0 0 gone"}},
		{"20-E", []string{"A 0 0", "B 0 0 gone", "?", ""}},
		{"20-E 30-E", []string{"", "?"}},
		{"20-E 30-E", []string{"", "A 0 0", "?"}},
		{"20-E 30-E 40-E", []string{"", "", "A 0 0 gone", "?"}},
	} {
		after, found, freed, c := impl.MendLost(chainsLike(t, r.links, r.entries...))
		noDisk(t, "malformed before the first empty one", after, c, impl.ErrFormat)
		is(t, "no counts", []int64{found, freed}, []int64{0, 0})
	}
}

// A lost chain may be longer than a file may be.
func TestP21LongLostChains(t *testing.T) {
	for _, l := range []impl.ChainLayout{{Blocks: 128, Size: 8, Data: 41}, {Blocks: 128, Size: 16, Data: 21}, {Blocks: 128, Size: 32, Data: 11}, {Blocks: 32, Size: 32, Data: 4}} {
		most := 512 / l.Size
		for _, count := range []int64{1, most - 1, most, most + 1, most + 2, l.Blocks - l.Data} {
			if count > l.Blocks-l.Data {
				continue
			}
			row := []string{}
			for i := range count {
				row = append(row, strconv.Itoa(int(l.Blocks-1-i)))
			}
			end := "-" + row[count/2]
			empty := newChains(t, l.Blocks, l.Size)
			disk := linked(empty, strings.Join(row, "-")+end)
			kept := min(count, most)
			if count/2 == 0 {
				disk = linked(empty, row[0]+"-E")
			}
			want := withEntry(linked(empty, strings.Join(row[:kept], "-")+"-E"), 0, entryOf(fmt.Sprint("LOST00 ", l.Blocks-1, " ", kept*l.Size)))
			after, found, freed, c := impl.MendLost(disk)
			diskIs(t, "a long chain", after, c, want)
			is(t, "a long chain", []int64{found, freed}, []int64{1, count - kept})
			mendedIsRight(t, disk)
			data, c := impl.ReadChain(after, "LOST00")
			is(t, "a long file", []int64{int64(len(data)), c}, []int64{kept * l.Size, impl.OK})
		}
	}
}

// The contents of lost blocks stay what they are, also if they become free.
func TestP21ContentsOfLostBlocks(t *testing.T) {
	disk := chainsWith(t, 64, 16, "A 40", "B 30")
	disk = withEntry(disk, 0, entryOf(""))
	after, found, freed, c := impl.MendLost(disk)
	is(t, "one file", []int64{found, freed, c}, []int64{1, 0, impl.OK})
	reads(t, "what was A", after, "LOST00", someData("A", 40)+zeros(8))
	reads(t, "B", after, "B", someData("B", 30))
	for k := range 8 {
		disk = withEntry(disk, k, entryOf(fmt.Sprint("N", k, " 0 0")))
	}
	after, found, freed, c = impl.MendLost(disk)
	is(t, "no file", []int64{found, freed, c}, []int64{0, 5, impl.OK})
	is(t, "free blocks", slices.Equal(after[11:], disk[11:]), true)
}

func TestP21AllSteps(t *testing.T) {
	mendedAre(t, []mendCase{
		{"", nil, "=", nil, []int64{0, 0, 0, 0, 0, 0}},
		{"11-12-E 13-B", []string{"A 11 20", "B 0 0", "C 30 30 gone"}, "=", nil, []int64{0, 0, 0, 0, 0, 0}},
		// One step makes what the next one mends.
		{"11-12-E", []string{"?"}, "=", []string{"LOST00 11 32"}, []int64{1, 0, 0, 0, 1, 0}},
		{"11-12-F", []string{"A 11 100"}, "11-12-E", []string{"A 11 32"}, []int64{0, 0, 1, 1, 0, 0}},
		{"11-12-13-E", []string{"A 11 5"}, "11-E 12-13-E", []string{"A 11 5", "LOST00 12 32"}, []int64{0, 0, 0, 1, 1, 0}},
		{"11-12-13-E", []string{"A 11 0"}, "=", []string{"A 0 0", "LOST00 11 48"}, []int64{0, 0, 0, 1, 1, 0}},
		{"11-12-13-F", []string{"A 11 5"}, "11-E 12-13-E", []string{"A 11 5", "LOST00 12 32"}, []int64{0, 0, 1, 1, 1, 0}},
		{"11-12-13-E 20-12", []string{"A 11 5", "B 20 48"}, "11-E 12-13-E 20-E", []string{"A 11 5", "B 20 16", "LOST00 12 32"}, []int64{0, 0, 1, 2, 1, 0}},
		{"", []string{"A 200 40"}, "=", []string{"A 0 0"}, []int64{0, 0, 1, 1, 0, 0}},
		{"11-E", []string{"A 11 16", "?", "A 11 16"}, "=", []string{"A 11 16", "", "DUP00 0 0"}, []int64{1, 1, 1, 1, 0, 0}},
		{"20-E", []string{"A 0 0", "A 0 0", "?", "DUP00 0 0", "LOST00 0 0"}, "=", []string{"A 0 0", "DUP01 0 0", "LOST01 20 16", "DUP00 0 0", "LOST00 0 0"}, []int64{1, 1, 0, 0, 1, 0}},
		{"11-12-11 13-14-12 0-5 10-11 30-31-30 40-E", []string{"A 11 1", "A 13 500", "?", "B 64 0", "C 14 16", "D 50 16 gone", "?", "E 0 0"}, "11-E 12-E 13-14-E 30-31-E 40-E", []string{"A 11 1", "DUP00 13 32", "LOST00 12 16", "B 0 0", "C 0 0", "LOST02 30 32", "LOST01 40 16", "E 0 0"}, []int64{2, 1, 6, 3, 3, 0}},
		{"11-12-11 13-14-12 0-5 30-31-30 40-E", []string{"A 11 1", "A 13 500", "?", "B 64 0", "C 14 16", "D 0 0", "DUP00 0 0", "E 0 0"}, "11-E 12-E 13-14-E", []string{"A 11 1", "DUP01 13 32", "LOST00 12 16", "B 0 0", "C 0 0", "D 0 0", "DUP00 0 0", "E 0 0"}, []int64{1, 1, 5, 3, 1, 3}},
	}, func(disk []string) ([]string, []int64, int64) {
		after, m, c := impl.MendChains(disk)
		return after, []int64{m.Entries, m.Names, m.Links, m.Lengths, m.Found, m.Freed}, c
	})
}

// Names and contents of files
func filesAre(t *testing.T, what string, disk []string, want ...impl.File) {
	t.Helper()
	got, c := impl.SoundFiles(disk)
	is(t, what, fmt.Sprintf("%q %d", got, c), fmt.Sprintf("%q %d", append([]impl.File{}, want...), impl.OK))
}

func TestP21SoundFiles(t *testing.T) {
	filesAre(t, "none", newChains(t, 64, 16))
	disk := chainsWith(t, 64, 16, "B 40", "C 0", "A 16", "D 17", "E 30")
	a, b, c, d, e := fileOf("A 16"), fileOf("B 40"), fileOf("C 0"), fileOf("D 17"), fileOf("E 30")
	filesAre(t, "all", disk, a, b, c, d, e)
	gone, _ := impl.DeleteChain(disk, "A")
	filesAre(t, "without a deleted one", gone, b, c, d, e)
	// B has the blocks 11 to 13, A 14, D 15 and 16, and E 17 and 18.
	filesAre(t, "malformed", withEntry(disk, 2, entryOf("?")), b, c, d, e)
	filesAre(t, "twice, with the first one", withEntry(disk, 3, entryOf("A 15 17")), a, b, c, e)
	filesAre(t, "twice, and the first one has a problem", withEntry(linked(disk, "14-F"), 3, entryOf("A 15 17")), b, c, e)
	filesAre(t, "range", linked(disk, "14-10"), b, c, d, e)
	filesAre(t, "loop", linked(disk, "16-15"), a, b, c, e)
	filesAre(t, "cross, with the first one", linked(disk, "15-13"), a, b, c, e)
	filesAre(t, "cross, with a later one", linked(disk, "12-15"), a, c, e)
	filesAre(t, "with the blocks of a later one", linked(disk, "11-15"), a, impl.File{Name: "B", Data: b.Data[:16] + d.Data + zeros(7)}, c, e)
	filesAre(t, "open", linked(disk, "13-B"), a, c, d, e)
	filesAre(t, "short", withEntry(disk, 2, entryOf("A 14 17")), b, c, d, e)
	filesAre(t, "long", withEntry(disk, 3, entryOf("D 15 16")), a, b, c, e)
	filesAre(t, "another length", withEntry(disk, 3, entryOf("D 15 32")), a, b, c, impl.File{Name: "D", Data: d.Data + zeros(15)}, e)
	filesAre(t, "reserved and lost blocks", linked(disk, "10-E 30-31-30"), a, b, c, d, e)
}

// keptAre requires the files that two disks have.
func keptAre(t *testing.T, what string, before, after []string, want ...string) {
	t.Helper()
	names, c := impl.KeptFiles(before, after)
	namesAre(t, what, names, c, want...)
}

func TestP21KeptFiles(t *testing.T) {
	disk := chainsWith(t, 64, 16, "B 40", "C 0", "A 16", "D 17")
	keptAre(t, "all", disk, disk, "A", "B", "C", "D")
	keptAre(t, "on a disk of another size, in another order", disk, chainsWith(t, 128, 8, "D 17", "A 16", "C 0", "B 40"), "A", "B", "C", "D")
	keptAre(t, "none before", newChains(t, 64, 16), disk)
	keptAre(t, "none after", disk, newChains(t, 64, 16))
	gone, _ := impl.DeleteChain(disk, "A")
	keptAre(t, "one fewer after", disk, gone, "B", "C", "D")
	keptAre(t, "one fewer before", gone, disk, "B", "C", "D")
	keptAre(t, "another one", disk, wroteChain(t, disk, "E 5"), "A", "B", "C", "D")
	keptAre(t, "other contents", disk, patched(disk, 15*16, "!"), "A", "B", "C")
	keptAre(t, "other bytes behind the contents", disk, patched(disk, 15*16+17, "!"), "A", "B", "C", "D")
	keptAre(t, "another length", disk, withEntry(disk, 3, entryOf("D 15 18")), "A", "B", "C")
	keptAre(t, "an empty file that is written", disk, wroteChain(t, disk, "C 1"), "A", "B", "D")
	keptAre(t, "another name", disk, withEntry(disk, 3, entryOf("DD 15 17")), "A", "B", "C")
	keptAre(t, "a problem before", linked(disk, "14-F"), disk, "B", "C", "D")
	keptAre(t, "a problem after", disk, linked(disk, "14-F"), "B", "C", "D")
	keptAre(t, "the same contents and another name", withEntry(disk, 1, entryOf("X 0 0")), disk, "A", "B", "D")
}

func TestP21KeptFilesErrors(t *testing.T) {
	good, other := chainsWith(t, 16, 16, "A 5"), chainsWith(t, 64, 8, "A 5")
	noHeader := append([]string{zeros(16)}, good[1:]...)
	for _, r := range []struct {
		before, after []string
		want          int64
	}{{nil, good, impl.ErrInvalid}, {good, nil, impl.ErrInvalid}, {noHeader, good, impl.ErrFormat}, {good, noHeader, impl.ErrFormat}, {nil, noHeader, impl.ErrInvalid}, {noHeader, nil, impl.ErrFormat}, {nil, nil, impl.ErrInvalid}, {noHeader, noHeader, impl.ErrFormat}, {good[1:], other, impl.ErrFormat}, {other, good[:7], impl.ErrInvalid}} {
		names, c := impl.KeptFiles(r.before, r.after)
		noDisk(t, "kept files", names, c, r.want)
	}
	keptAre(t, "neither", good, other, "A")
}

func TestP21Compact(t *testing.T) {
	from := source(412)
	for _, l := range chainShapes() {
		empty := newChains(t, l.Blocks, l.Size)
		got, c := impl.CompactChains(empty)
		diskIs(t, "an empty disk", got, c, empty)
		if l.Entries < 2 {
			continue
		}
		data, last := int(l.Data), int(l.Blocks)-1
		disk := patched(empty, data*int(l.Size), from.bytes((last+1-data)*int(l.Size)))
		disk = linked(disk, fmt.Sprint(last, "-", data, "-E ", data+1, "-B ", data+2, "-E"))
		disk = withEntry(disk, 0, entryOf(fmt.Sprint("B ", last, " ", l.Size+1))+entryOf(fmt.Sprint("A ", data+2, " 3")))
		x := plainChainsOf(disk)
		disk = patched(disk, x.size+x.blocks, strings.Repeat("\xfe", (x.dir-1)*x.size-x.blocks))
		chainProblemsAre(t, "clean, with unused bytes", disk, "")
		want, _ := plainChainsOf(linked(empty, fmt.Sprint(data+1, "-B"))).write("B", disk[last]+disk[data][:1])
		want, _ = plainChainsOf(want).write("A", disk[data+2][:3])
		got, c = impl.CompactChains(disk)
		diskIs(t, "two files", got, c, want)
		again, c := impl.CompactChains(got)
		diskIs(t, "again", again, c, want)
	}
}

func TestP21CompactByHand(t *testing.T) {
	disk := chainsWith(t, 64, 16, "A 40", "B 20", "C 0", "D 16", "E 33")
	disk, _ = impl.DeleteChain(disk, "A")
	disk, _ = impl.DeleteChain(disk, "D")
	disk = linked(disk, "11-B 15-B 63-B")
	// B had the blocks 14 and 15 before the last one of these was bad.
	disk = linked(disk, "14-40-E")
	got, c := impl.CompactChains(disk)
	code(t, "compact", c, impl.OK)
	for k, want := range []impl.ChainEntry{{Name: "B", First: 12, Length: 20, Used: true}, {Name: "C", Used: true}, {Name: "E", First: 14, Length: 33, Used: true}, {}, {}} {
		e, c := impl.EntryAt(got, int64(k))
		is(t, "entry", []any{e, c}, []any{want, int64(impl.OK)})
	}
	chainIs(t, "B", got, 12, 12, 13)
	chainIs(t, "E", got, 14, 14, 16, 17)
	for block, want := range map[int64]int64{11: impl.ChBad, 15: impl.ChBad, 63: impl.ChBad, 18: impl.ChFree, 62: impl.ChFree, 40: impl.ChFree} {
		link, _ := impl.LinkAt(got, block)
		is(t, "link", link, want)
	}
	reads(t, "E", got, "E", someData("E", 33))
	is(t, "bytes behind a file", got[17][1:], zeros(15))
	chainProblemsAre(t, "compact", got, "")
	keptAre(t, "all files", disk, got, "B", "C", "E")
}

func TestP21CompactWithProblems(t *testing.T) {
	disk := chainsWith(t, 64, 16, "A 40", "B 20")
	for _, wrong := range [][]string{
		linked(disk, "10-F"), linked(disk, "0-E"), withEntry(disk, 7, entryOf("?")), withEntry(disk, 7, entryOf("A 0 0")), linked(disk, "15-10"), linked(disk, "15-14"), linked(disk, "15-11"), linked(disk, "15-F"), withEntry(disk, 1, entryOf("B 14 33")), withEntry(disk, 1, entryOf("B 14 16")), linked(disk, "20-E"), linked(disk, "20-20"),
	} {
		got, c := impl.CompactChains(wrong)
		noDisk(t, "a problem", got, c, impl.ErrState)
		mended, _, _ := impl.MendChains(wrong)
		_, c = impl.CompactChains(mended)
		code(t, "none any more", c, impl.OK)
	}
}

// A full disk is compact, and so is one with bad blocks among those of files.
func TestP21CompactKeepsAllFiles(t *testing.T) {
	from := source(411)
	for range 200 {
		disk := from.anyChains(t, 0)
		free, _ := impl.FreeChains(disk)
		for _, block := range free {
			if from.below(3) == 0 {
				disk = withLinks(disk, [2]int{int(block), impl.ChBad})
			}
		}
		got, c := impl.CompactChains(disk)
		want, _ := plainChainsOf(disk).compact()
		diskIs(t, "compact", got, c, want)
		chainProblemsAre(t, "compact", got, "")
		names, _ := impl.ListChains(disk)
		keptAre(t, "all files", disk, got, names...)
		after, _ := impl.FreeChains(got)
		left, _ := impl.FreeChains(disk)
		is(t, "as many free blocks", len(after), len(left))
	}
}
