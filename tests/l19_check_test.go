package tests

import (
	"fmt"
	"math"
	"slices"
	"strconv"
	"strings"
	"testing"

	"loop.example/g00899/impl"
)

// entryOf returns the bytes of an entry that is described by its Name, First and Length, and by "gone" if it is deleted. It is malformed if the Length is more than 512. "?" is another malformed one, with the First 11, and "" an empty one.
func entryOf(text string) string {
	switch text {
	case "":
		return zeros(12)
	case "?":
		return "a" + zeros(7) + "\x0b\x00\x10\x01"
	}
	words := append(strings.Split(text, " "), "")
	first, _ := strconv.Atoi(words[1])
	length, _ := strconv.Atoi(words[2])
	state := byte(1)
	if words[3] == "gone" {
		state = 2
	}
	return (words[0] + zeros(8))[:8] + string([]byte{byte(first), byte(length / 256), byte(length % 256), state})
}

// linked returns a disk with links, of which several in a row are written as 11-12-13-E. The letters stand for ChFree, ChReserved, ChBad and ChEnd.
func linked(disk []string, rows string) []string {
	links := map[string]int{"F": 0, "R": 253, "B": 254, "E": 255}
	for _, row := range strings.Fields(rows) {
		words := strings.Split(row, "-")
		for i, word := range words[:len(words)-1] {
			block, _ := strconv.Atoi(word)
			link, isLetter := links[words[i+1]]
			if !isLetter {
				link, _ = strconv.Atoi(words[i+1])
			}
			disk = withLinks(disk, [2]int{block, link})
		}
	}
	return disk
}

// chainsLike returns a disk of 64 blocks of 16 bytes with these entries and links. It has eight entries, and its data blocks are 11 to 63.
func chainsLike(t *testing.T, links string, entries ...string) []string {
	t.Helper()
	disk := linked(newChains(t, 64, 16), links)
	for k, text := range entries {
		disk = withEntry(disk, k, entryOf(text))
	}
	return disk
}

// problemText returns the texts of some problems.
func problemText(list []impl.ChainProblem) string {
	texts := []string{}
	for _, x := range list {
		texts = append(texts, impl.ProblemText(x))
	}
	return strings.Join(texts, ", ")
}

// chainProblemsAre requires the problems of a disk, as texts that commas separate.
func chainProblemsAre(t *testing.T, what string, disk []string, want string) {
	t.Helper()
	list, c := impl.CheckChains(disk)
	code(t, what, c, impl.OK)
	is(t, what, problemText(list), want)
	is(t, what+": clean", impl.CleanChains(disk), want == "")
}

// walksAre requires the first walks of a disk, and that all others are empty.
func walksAre(t *testing.T, what string, disk []string, want ...string) {
	t.Helper()
	walks, c := impl.WalksOf(disk)
	code(t, what, c, impl.OK)
	got := []string{}
	for _, w := range walks {
		got = append(got, fmt.Sprint(w))
	}
	for len(want) < len(got) {
		want = append(want, "{[] 0 0}")
	}
	is(t, what, got, want)
}

func (x plainChains) link(block int) int { return int(x.all[x.size+block]) }

func (x plainChains) isData(block int) bool { return block >= x.data && block < x.blocks }

// used returns an entry, and whether it is used and not malformed.
func (x plainChains) used(k int) (impl.ChainEntry, bool) {
	e, ok := x.entry(k)
	return e, ok && e.Used
}

// walk follows the words of the document for the walk of an entry.
func (x plainChains) walk(first int, before map[int]bool) impl.ChainWalk {
	w := impl.ChainWalk{}
	last := 0
	ended := func(end, block int) impl.ChainWalk {
		w.End, w.Block = int64(end), int64(block)
		return w
	}
	for at := first; ; last, at = at, x.link(at) {
		if !x.isData(at) {
			return ended(impl.CpRange, last)
		}
		if slices.Contains(w.Blocks, int64(at)) {
			return ended(impl.CpLoop, last)
		}
		if before[at] {
			return ended(impl.CpCross, last)
		}
		w.Blocks = append(w.Blocks, int64(at))
		if x.link(at) == 255 {
			return w
		}
		if x.link(at) == 0 || x.link(at) == 253 || x.link(at) == 254 {
			return ended(impl.CpOpen, at)
		}
	}
}

func (x plainChains) walks() []impl.ChainWalk {
	list, before := []impl.ChainWalk{}, map[int]bool{}
	for k := range x.entries {
		w := impl.ChainWalk{}
		if e, ok := x.used(k); ok && e.First != 0 {
			w = x.walk(int(e.First), before)
		}
		for _, block := range w.Blocks {
			before[int(block)] = true
		}
		list = append(list, w)
	}
	return list
}

func (x plainChains) owners() []int64 {
	list := []int64{}
	for block := range x.blocks {
		owner := int64(-1)
		for k, w := range x.walks() {
			if slices.Contains(w.Blocks, int64(block)) {
				owner = int64(k)
			}
		}
		list = append(list, owner)
	}
	return list
}

func (x plainChains) lost() []int64 {
	list := []int64{}
	for block, owner := range x.owners() {
		if owner < 0 && x.isData(block) && x.link(block) != 0 && x.link(block) != 254 {
			list = append(list, int64(block))
		}
	}
	return list
}

func (x plainChains) lostChains() [][]int64 {
	lost, done, chains := x.lost(), []int64{}, [][]int64{}
	begin := func(block int64) {
		chain := []int64{}
		for slices.Contains(lost, block) && !slices.Contains(done, block) {
			chain, done = append(chain, block), append(done, block)
			block = int64(x.link(int(block)))
		}
		chains = append(chains, chain)
	}
	isLink := func(block int64) bool {
		return slices.ContainsFunc(lost, func(other int64) bool { return int64(x.link(int(other))) == block })
	}
	for _, block := range lost {
		if !isLink(block) {
			begin(block)
		}
	}
	for _, block := range lost {
		if !slices.Contains(done, block) {
			begin(block)
		}
	}
	return chains
}

func (x plainChains) entryProblems(k int) []impl.ChainProblem {
	list := []impl.ChainProblem{}
	add := func(kind, block int64) {
		list = append(list, impl.ChainProblem{Kind: kind, Entry: int64(k), Block: block})
	}
	e, ok := x.entry(k)
	if !ok {
		add(impl.CpEntry, 0)
	}
	if !ok || !e.Used {
		return list
	}
	twice := false
	for before := range k {
		other, isUsed := x.used(before)
		twice = twice || isUsed && other.Name == e.Name
	}
	if twice {
		add(impl.CpTwice, 0)
	}
	w := x.walks()[k]
	if w.End != 0 {
		add(w.End, w.Block)
	}
	if len(w.Blocks) < up(int(e.Length), x.size) {
		add(impl.CpShort, 0)
	}
	if len(w.Blocks) > up(int(e.Length), x.size) {
		add(impl.CpLong, 0)
	}
	return list
}

func (x plainChains) problems() []impl.ChainProblem {
	list := []impl.ChainProblem{}
	for block := range x.blocks {
		if !x.isData(block) && x.link(block) != 253 {
			list = append(list, impl.ChainProblem{Kind: impl.CpReserved, Block: int64(block)})
		}
	}
	for k := range x.entries {
		list = append(list, x.entryProblems(k)...)
	}
	for _, block := range x.lost() {
		list = append(list, impl.ChainProblem{Kind: impl.CpLost, Block: block})
	}
	return list
}

func TestP20Constants(t *testing.T) {
	is(t, "kinds", problemKinds(), []int64{1, 2, 3, 4, 5, 6, 7, 8, 9, 10})
}

func problemKinds() []int64 {
	return []int64{impl.CpReserved, impl.CpEntry, impl.CpTwice, impl.CpRange, impl.CpLoop, impl.CpCross, impl.CpOpen, impl.CpShort, impl.CpLong, impl.CpLost}
}

func TestP20NoDisks(t *testing.T) {
	start := func(blocks, size int) string { return chainStart(blocks, min(16, blocks/8), size) }
	for _, disk := range noDisks(start) {
		for _, k := range []int64{0, -1, 16} {
			codesAre(t, "no disk "+brief(disk), impl.ErrInvalid, stage11Checks(disk, k)...)
		}
		is(t, "no disk is clean", impl.CleanChains(disk), false)
	}
	for _, l := range chainShapes() {
		disk := chainsWith(t, l.Blocks, l.Size, "A 5")
		for i, s := range otherHeaders(int(l.Blocks), int(l.Entries), int(l.Size)) {
			if i%211 > 0 {
				continue
			}
			disk[0] = s
			for _, k := range []int64{0, -1, 16} {
				codesAre(t, "no header "+brief(s), impl.ErrFormat, stage11Checks(disk, k)...)
			}
			is(t, "no disk is clean", impl.CleanChains(disk), false)
		}
	}
}

// Walks of the entries of disks of 64 blocks, of which 11 to 63 are data blocks.
func TestP20Walks(t *testing.T) {
	for _, r := range []struct {
		links   string
		entries []string
		want    []string
	}{
		{"", nil, nil},
		{"", []string{"A 0 0"}, []string{"{[] 0 0}"}},
		{"11-12-E", []string{"A 0 32"}, []string{"{[] 0 0}"}},
		{"0-11-E", []string{"A 0 32"}, []string{"{[] 0 0}"}},
		{"11-E", []string{"A 11 16"}, []string{"{[11] 0 0}"}},
		{"63-E", []string{"A 63 0"}, []string{"{[63] 0 0}"}},
		{"11-63-12-E", []string{"A 11 0"}, []string{"{[11 63 12] 0 0}"}},
		{"11-63-12-E", []string{"", "A 63 0"}, []string{"{[] 0 0}", "{[63 12] 0 0}"}},
		// First is not a data block.
		{"1-E 10-E", []string{"A 1 16"}, []string{"{[] 4 0}"}},
		{"10-11-E", []string{"A 10 16", "B 11 16"}, []string{"{[] 4 0}", "{[11] 0 0}"}},
		{"", []string{"A 64 16", "B 65 0", "C 127 0", "D 128 0", "E 253 0", "F 254 0", "G 255 0", "H 252 0"}, slices.Repeat([]string{"{[] 4 0}"}, 8)},
		// A link is not one of a data block.
		{"11-12-10 10-E", []string{"A 11 48"}, []string{"{[11 12] 4 12}"}},
		{"11-1", []string{"A 11 16"}, []string{"{[11] 4 11}"}},
		{"11-64", []string{"A 11 16"}, []string{"{[11] 4 11}"}},
		{"12-11-252", []string{"A 12 16"}, []string{"{[12 11] 4 11}"}},
		{"11-127", []string{"A 11 16"}, []string{"{[11] 4 11}"}},
		{"11-128", []string{"A 11 16"}, []string{"{[11] 4 11}"}},
		// A link is one that a file does not have.
		{"11-F", []string{"A 11 16"}, []string{"{[11] 7 11}"}},
		{"11-R", []string{"A 11 16"}, []string{"{[11] 7 11}"}},
		{"11-B", []string{"A 11 16"}, []string{"{[11] 7 11}"}},
		{"11-20-15-F", []string{"A 11 16"}, []string{"{[11 20 15] 7 15}"}},
		{"11-20-15-R", []string{"A 11 16"}, []string{"{[11 20 15] 7 15}"}},
		{"11-20-15-B", []string{"A 11 16"}, []string{"{[11 20 15] 7 15}"}},
		// A chain comes back to its first block, to one in the middle, and to its last one.
		{"11-12-13-11", []string{"A 11 16"}, []string{"{[11 12 13] 5 13}"}},
		{"11-12-13-12", []string{"A 11 16"}, []string{"{[11 12 13] 5 13}"}},
		{"11-12-13-13", []string{"A 11 16"}, []string{"{[11 12 13] 5 13}"}},
		{"11-11", []string{"A 11 16"}, []string{"{[11] 5 11}"}},
		// Chains of two and of three entries meet.
		{"11-12-13-14-E 20-21-13", []string{"A 11 64", "B 20 64"}, []string{"{[11 12 13 14] 0 0}", "{[20 21] 6 21}"}},
		{"11-12-13-14-E 20-21-13", []string{"A 20 64", "B 11 64"}, []string{"{[20 21 13 14] 0 0}", "{[11 12] 6 12}"}},
		{"11-12-E 20-21-11", []string{"A 11 32", "B 20 64"}, []string{"{[11 12] 0 0}", "{[20 21] 6 21}"}},
		{"11-12-E 20-21-11", []string{"A 20 64", "B 11 32"}, []string{"{[20 21 11 12] 0 0}", "{[] 6 0}"}},
		{"11-12-E", []string{"A 11 32", "B 11 32"}, []string{"{[11 12] 0 0}", "{[] 6 0}"}},
		{"11-12-E", []string{"A 11 32", "B 12 16"}, []string{"{[11 12] 0 0}", "{[] 6 0}"}},
		{"11-12-E", []string{"A 12 16", "B 11 32"}, []string{"{[12] 0 0}", "{[11] 6 11}"}},
		{"11-12-13-E 20-12 30-31-12", []string{"A 11 48", "B 20 48", "C 30 48"}, []string{"{[11 12 13] 0 0}", "{[20] 6 20}", "{[30 31] 6 31}"}},
		{"11-12-13-E 20-12 30-31-20", []string{"A 11 48", "B 20 48", "C 30 48"}, []string{"{[11 12 13] 0 0}", "{[20] 6 20}", "{[30 31] 6 31}"}},
		{"11-12-13-E 20-12 30-31-20", []string{"A 30 48", "B 11 48", "C 20 48"}, []string{"{[30 31 20 12 13] 0 0}", "{[11] 6 11}", "{[] 6 0}"}},
		{"11-12-13-E 20-13 30-13", []string{"A 11 48", "B 20 48", "C 30 48", "D 13 16"}, []string{"{[11 12 13] 0 0}", "{[20] 6 20}", "{[30] 6 30}", "{[] 6 0}"}},
		{"11-12-13-E 20-13 30-13", []string{"D 13 16", "A 11 48", "B 20 48", "C 30 48"}, []string{"{[13] 0 0}", "{[11 12] 6 12}", "{[20] 6 20}", "{[30] 6 30}"}},
		// A block is in a walk before this one, though its own link is not one that a file has, and though its chain comes back to it.
		{"11-F", []string{"A 11 16", "B 11 16"}, []string{"{[11] 7 11}", "{[] 6 0}"}},
		{"11-B 12-11", []string{"A 11 16", "B 12 32"}, []string{"{[11] 7 11}", "{[12] 6 12}"}},
		{"11-12-11", []string{"A 11 32", "B 12 32"}, []string{"{[11 12] 5 12}", "{[] 6 0}"}},
		{"11-12-11 13-14-12", []string{"A 11 32", "B 13 32"}, []string{"{[11 12] 5 12}", "{[13 14] 6 14}"}},
		{"11-70 12-11", []string{"A 11 32", "B 12 32"}, []string{"{[11] 4 11}", "{[12] 6 12}"}},
		// An entry that is not used has no blocks, whatever its First.
		{"11-12-E", []string{"A 11 32", "?", "B 12 16"}, []string{"{[11 12] 0 0}", "{[] 0 0}", "{[] 6 0}"}},
		{"11-12-E", []string{"?", "A 11 32"}, []string{"{[] 0 0}", "{[11 12] 0 0}"}},
		{"11-12-E", []string{"A 11 513", "B 12 16"}, []string{"{[] 0 0}", "{[12] 0 0}"}},
		{"11-12-E", []string{"A 11 32 gone", "B 11 32"}, []string{"{[] 0 0}", "{[11 12] 0 0}"}},
		{"11-12-E", []string{"B 12 16", "A 11 32 gone", "", "C 11 16"}, []string{"{[12] 0 0}", "{[] 0 0}", "{[] 0 0}", "{[11] 6 11}"}},
		{"11-F", []string{"A 11 32 gone", "B 1 16 gone", "C 200 5 gone"}, nil},
	} {
		disk := chainsLike(t, r.links, r.entries...)
		walksAre(t, "walks "+r.links+brief(r.entries), disk, r.want...)
		owners, c := impl.OwnersOf(disk)
		is(t, "owners "+r.links, []any{owners, c}, []any{plainChainsOf(disk).owners(), int64(impl.OK)})
		checksAre(t, disk)
	}
}

// A walk may have all data blocks of a disk.
func TestP20LongestWalks(t *testing.T) {
	for _, l := range chainShapes() {
		blocks := upTo(int(l.Blocks))[l.Data:]
		row := strings.ReplaceAll(strings.Trim(fmt.Sprint(blocks), "[]"), " ", "-")
		disk := withEntry(linked(newChains(t, l.Blocks, l.Size), row+"-E"), int(l.Entries)-1, entryOf(fmt.Sprint("A ", l.Data, " 0")))
		walks, c := impl.WalksOf(disk)
		is(t, "as many walks as entries", []int64{int64(len(walks)), c}, []int64{l.Entries, impl.OK})
		is(t, "all blocks", walks[l.Entries-1], impl.ChainWalk{Blocks: blocks})
		owners, _ := impl.OwnersOf(disk)
		listIs(t, "owners of other blocks", owners[:l.Data], slices.Repeat([]int64{-1}, int(l.Data))...)
		listIs(t, "owners of data blocks", owners[l.Data:], slices.Repeat([]int64{l.Entries - 1}, len(blocks))...)
		loop, _ := impl.WalksOf(linked(disk, fmt.Sprint(l.Blocks-1, "-", l.Data)))
		is(t, "a circle", loop[l.Entries-1], impl.ChainWalk{Blocks: blocks, End: impl.CpLoop, Block: l.Blocks - 1})
		outside, _ := impl.WalksOf(linked(disk, fmt.Sprint(l.Blocks-1, "-", l.Blocks)))
		is(t, "behind the last block", outside[l.Entries-1], impl.ChainWalk{Blocks: blocks, End: impl.CpRange, Block: l.Blocks - 1})
		before, _ := impl.WalksOf(linked(disk, fmt.Sprint(l.Blocks-1, "-", l.Data-1)))
		is(t, "before the first data block", before[l.Entries-1], impl.ChainWalk{Blocks: blocks, End: impl.CpRange, Block: l.Blocks - 1})
	}
}

// lostAre requires the lost blocks of a disk, and the chains that they form.
func lostAre(t *testing.T, what string, disk []string, lost, chains string) {
	t.Helper()
	blocks, c := impl.LostBlocks(disk)
	is(t, what, fmt.Sprint(blocks, c), lost+" 0")
	lists, c := impl.LostChains(disk)
	is(t, what+": chains", fmt.Sprint(lists, c), chains+" 0")
}

func TestP20LostBlocks(t *testing.T) {
	for _, r := range []struct{ links, entry, lost, chains string }{
		{"", "", "[]", "[]"},
		{"11-12-E", "A 11 32", "[]", "[]"},
		{"11-B 12-F 63-B", "", "[]", "[]"},
		{"0-E 10-E 1-11", "", "[]", "[]"},
		{"11-E", "", "[11]", "[[11]]"},
		{"63-E", "", "[63]", "[[63]]"},
		{"20-R", "", "[20]", "[[20]]"},
		{"20-64", "", "[20]", "[[20]]"},
		{"20-252", "", "[20]", "[[20]]"},
		{"20-1", "", "[20]", "[[20]]"},
		{"20-21", "", "[20]", "[[20]]"},
		{"20-21-B", "", "[20]", "[[20]]"},
		{"20-20", "", "[20]", "[[20]]"},
		{"11-12-E 20-12", "A 11 32", "[20]", "[[20]]"},
		{"11-12-E 20-11", "A 11 32", "[20]", "[[20]]"},
		{"20-21-22-E", "", "[20 21 22]", "[[20 21 22]]"},
		{"22-21-20-E", "", "[20 21 22]", "[[22 21 20]]"},
		{"22-20-21-F", "", "[20 22]", "[[22 20]]"},
		{"22-20-21-R", "", "[20 21 22]", "[[22 20 21]]"},
		{"30-31-30", "", "[30 31]", "[[30 31]]"},
		{"31-33-32-31", "", "[31 32 33]", "[[31 33 32]]"},
		{"30-40-41-42-40", "", "[30 40 41 42]", "[[30 40 41 42]]"},
		{"50-40-41-42-40", "", "[40 41 42 50]", "[[50 40 41 42]]"},
		{"30-41-42-40-41 20-42", "", "[20 30 40 41 42]", "[[20 42 40 41] [30]]"},
		{"20-22-23-E 21-22", "", "[20 21 22 23]", "[[20 22 23] [21]]"},
		{"21-22-23-E 24-22", "", "[21 22 23 24]", "[[21 22 23] [24]]"},
		{"20-30-E 25-26-30", "", "[20 25 26 30]", "[[20 30] [25 26]]"},
		{"20-21-20 15-E 30-31-30 40-E 12-12", "", "[12 15 20 21 30 31 40]", "[[15] [40] [12] [20 21] [30 31]]"},
		{"60-50-E 40-30-E 55-E 11-11", "", "[11 30 40 50 55 60]", "[[40 30] [55] [60 50] [11]]"},
		{"11-12-F 13-E", "A 11 32", "[13]", "[[13]]"},
		{"11-12-13-E", "A 11 32 gone", "[11 12 13]", "[[11 12 13]]"},
		{"11-12-13-E", "?", "[11 12 13]", "[[11 12 13]]"},
		{"11-12-13-E", "A 12 32", "[11]", "[[11]]"},
	} {
		disk := chainsLike(t, r.links, r.entry)
		lostAre(t, "lost "+r.links, disk, r.lost, r.chains)
		checksAre(t, disk)
	}
	all := ""
	for block := 11; block < 64; block++ {
		all += strconv.Itoa(block) + "-" + strconv.Itoa(block+1) + " "
	}
	lostAre(t, "all blocks in a row", chainsLike(t, all), fmt.Sprint(upTo(64)[11:]), fmt.Sprint([][]int64{upTo(64)[11:]}))
	lostAre(t, "all blocks in a circle", chainsLike(t, all+"63-11"), fmt.Sprint(upTo(64)[11:]), fmt.Sprint([][]int64{upTo(64)[11:]}))
}

// Problems of single entries, which are those of the disk unless blocks are lost.
func TestP20EntryProblems(t *testing.T) {
	for _, r := range []struct {
		links string
		k     int64
		want  string
		all   []string
	}{
		{"", 0, "", nil},
		{"", 7, "", nil},
		{"11-12-E", 0, "", []string{"A 11 32"}},
		{"11-12-E", 0, "", []string{"A 11 17"}},
		{"", 0, "", []string{"A 0 0"}},
		{"", 0, "", []string{"A 11 100 gone"}},
		{"", 1, "", []string{"A 0 0", "A 200 100 gone", "A 1 16 gone"}},
		{"", 0, "entry 0 0", []string{"?"}},
		{"", 7, "entry 7 0", []string{"A 0 0", "", "", "", "", "", "", "?"}},
		{"11-E", 0, "", []string{"A 11 16", "?"}},
		// The same Name
		{"", 1, "twice 1 0", []string{"A 0 0", "A 0 0"}},
		{"", 0, "", []string{"A 0 0", "A 0 0"}},
		{"", 7, "twice 7 0", []string{"ABCDEFGH 0 0", "", "", "", "", "", "", "ABCDEFGH 0 0"}},
		{"", 2, "twice 2 0", []string{"A 0 0", "A 0 0", "A 0 0"}},
		{"", 1, "", []string{"?", "A 0 0", "A 0 0"}},
		{"", 2, "twice 2 0", []string{"?", "A 0 0", "A 0 0"}},
		{"", 0, "entry 0 0", []string{"A 0 513", "A 0 0", "A 0 0"}},
		{"", 1, "", []string{"A 0 513", "A 0 0", "A 0 0"}},
		{"", 2, "twice 2 0", []string{"A 0 513", "A 0 0", "A 0 0"}},
		{"", 1, "entry 1 0", []string{"A 0 0", "A 0 513"}},
		{"", 1, "", []string{"A 0 0 gone", "A 0 0", "A 0 0"}},
		{"", 2, "twice 2 0", []string{"A 0 0 gone", "A 0 0", "A 0 0"}},
		{"", 1, "", []string{"A 0 0", "B 0 0", "AA 0 0"}},
		{"", 2, "twice 2 0", []string{"A 0 0", "A 0 0 gone", "A 0 0"}},
		// Ends of walks, alone and with others
		{"11-12-10", 0, "range 0 12", []string{"A 11 32"}},
		{"11-12-12", 0, "loop 0 12", []string{"A 11 32"}},
		{"11-12-E 13-12", 1, "cross 1 13", []string{"A 11 32", "B 13 16"}},
		{"11-12-R", 0, "open 0 12", []string{"A 11 32"}},
		{"", 0, "range 0 0", []string{"A 10 0"}},
		{"11-E", 1, "cross 1 0", []string{"A 11 16", "B 11 0"}},
		{"11-12-10", 1, "twice 1 0, range 1 12", []string{"A 0 0", "A 11 32"}},
		{"11-12-12", 1, "twice 1 0, loop 1 12", []string{"A 0 0", "A 11 32"}},
		{"11-12-E 13-12", 1, "twice 1 0, cross 1 13", []string{"A 11 32", "A 13 16"}},
		{"11-12-F", 1, "twice 1 0, open 1 12", []string{"A 0 0", "A 11 32"}},
		{"11-12-10", 1, "twice 1 0, range 1 12, short 1 0", []string{"A 0 0", "A 11 33"}},
		{"11-12-11", 1, "twice 1 0, loop 1 12, short 1 0", []string{"A 0 0", "A 11 33"}},
		{"11-12-E 13-12", 1, "twice 1 0, cross 1 13, short 1 0", []string{"A 11 32", "A 13 17"}},
		{"11-12-B", 1, "twice 1 0, open 1 12, short 1 0", []string{"A 0 0", "A 11 512"}},
		{"11-12-100", 1, "twice 1 0, range 1 12, long 1 0", []string{"A 0 0", "A 11 16"}},
		{"11-12-11", 1, "twice 1 0, loop 1 12, long 1 0", []string{"A 0 0", "A 11 0"}},
		{"11-12-E 13-12", 1, "twice 1 0, cross 1 13, long 1 0", []string{"A 11 32", "A 13 0"}},
		{"11-12-B", 1, "twice 1 0, open 1 12, long 1 0", []string{"A 0 0", "A 11 1"}},
		{"11-12-10", 0, "range 0 12, short 0 0", []string{"A 11 33"}},
		{"11-12-11", 0, "loop 0 12, long 0 0", []string{"A 11 16"}},
		{"", 0, "range 0 0, short 0 0", []string{"A 64 1"}},
		// Lengths
		{"11-12-E", 0, "long 0 0", []string{"A 11 0"}},
		{"11-12-E", 0, "long 0 0", []string{"A 11 16"}},
		{"11-12-E", 0, "short 0 0", []string{"A 11 33"}},
		{"11-E", 0, "long 0 0", []string{"A 11 0"}},
		{"", 0, "short 0 0", []string{"A 0 1"}},
		{"", 0, "short 0 0", []string{"A 0 512"}},
		{"", 1, "twice 1 0, short 1 0", []string{"A 0 0", "A 0 1"}},
		{"11-E", 1, "twice 1 0, long 1 0", []string{"A 0 0", "A 11 0"}},
	} {
		disk := chainsLike(t, r.links, r.all...)
		got, c := impl.EntryProblems(disk, r.k)
		is(t, "problems of "+r.links+brief(r.all), []any{problemText(got), c}, []any{r.want, int64(impl.OK)})
		checksAre(t, disk)
	}
}

func TestP20NoEntries(t *testing.T) {
	for _, l := range chainShapes() {
		disk := chainsWith(t, l.Blocks, l.Size, "A 5")
		for k := range l.Entries {
			list, c := impl.EntryProblems(disk, k)
			is(t, "no problems", []int64{int64(len(list)), c}, []int64{0, impl.OK})
		}
		for _, k := range append(noBlocks(), l.Entries, l.Entries+1, 16, 255) {
			list, c := impl.EntryProblems(disk, k)
			is(t, "no entry", []int64{int64(len(list)), c}, []int64{0, impl.ErrRange})
		}
	}
}

// Each block that is not a data block has a problem with each link but ChReserved.
func TestP20ReservedBlocks(t *testing.T) {
	for _, l := range chainShapes() {
		disk := chainsWith(t, l.Blocks, l.Size, "A 5")
		for block := range l.Data {
			for link := range 256 {
				if l.Blocks > 16 && (int(block)+link)%7 > 0 && link < 250 {
					continue
				}
				want := fmt.Sprint("reserved 0 ", block)
				if link == 253 {
					want = ""
				}
				chainProblemsAre(t, "no data block", withLinks(disk, [2]int{int(block), link}), want)
			}
		}
	}
}

func TestP20OrderOfProblems(t *testing.T) {
	for _, r := range []struct {
		links string
		all   []string
		want  string
	}{
		{"", nil, ""},
		{"11-B 12-B 63-B", nil, ""},
		{"11-12-E 13-E", []string{"A 11 20", "B 0 0", "A 5 5 gone", "", "C 13 1"}, ""},
		{"10-F 0-E 5-11", nil, "reserved 0 0, reserved 0 5, reserved 0 10"},
		{"20-E 19-R", nil, "lost 0 19, lost 0 20"},
		{"20-E 10-11", []string{"A 0 1", "?", "A 10 0"}, "reserved 0 10, short 0 0, entry 1 0, twice 2 0, range 2 0, lost 0 20"},
		{"20-E 10-11 11-12-11 63-E 3-F", []string{"B 0 1", "?", "B 11 48", "B 12 0", "", "C 11 16 gone", "?"}, "reserved 0 3, reserved 0 10, short 0 0, entry 1 0, twice 2 0, loop 2 12, short 2 0, twice 3 0, cross 3 0, entry 6 0, lost 0 20, lost 0 63"},
		{"11-12-13-E", []string{"?", "?", "?", "?", "?", "?", "?", "?"}, "entry 0 0, entry 1 0, entry 2 0, entry 3 0, entry 4 0, entry 5 0, entry 6 0, entry 7 0, lost 0 11, lost 0 12, lost 0 13"},
	} {
		disk := chainsLike(t, r.links, r.all...)
		chainProblemsAre(t, "problems "+r.links, disk, r.want)
		checksAre(t, disk)
	}
}

func TestP20Texts(t *testing.T) {
	words := []string{"", "reserved", "entry", "twice", "range", "loop", "cross", "open", "short", "long", "lost", ""}
	numbers := []int64{0, 1, 9, 10, 14, 15, 16, 17, 99, 100, 126, 127, 128, 129, -1, -15, 255, 1 << 32, math.MinInt64, math.MaxInt64}
	for _, kind := range append(upTo(12), -1, -10, 255, 1<<32+1, math.MinInt64, math.MaxInt64) {
		for _, entry := range numbers {
			for _, block := range numbers {
				want := ""
				if kind >= 1 && kind <= 10 && entry >= 0 && entry < 16 && block >= 0 && block < 128 {
					want = fmt.Sprint(words[kind], " ", entry, " ", block)
				}
				x := impl.ChainProblem{Kind: kind, Entry: entry, Block: block}
				is(t, "text of "+brief(x), impl.ProblemText(x), want)
				if want != "" {
					back, ok := impl.ReadProblem(want)
					is(t, "problem "+want, []any{back, ok}, []any{x, true})
				}
			}
		}
	}
	is(t, "the example", impl.ProblemText(impl.ChainProblem{Kind: impl.CpLoop, Entry: 1, Block: 9}), "loop 1 9")
}

func TestP20NoTexts(t *testing.T) {
	list := []string{
		"", " ", "loop", "loop ", "loop 1", "loop 1 ", "loop 1 9 ", " loop 1 9", "loop  1 9", "loop 1  9", "loop\t1 9", "loop 1\t9", "loop 1 9\n", "loop 1 9 0", "loop 1 9 9 9", "loop 01 9", "loop 1 09", "loop 00 9", "loop 1 00", "loop +1 9", "loop 1 +9", "loop -1 9", "loop 1 -9", "loop -0 9", "loop 1 -0", "Loop 1 9", "LOOP 1 9", "loops 1 9", "loo 1 9", "loop 16 9", "loop 1 128", "loop 15 128", "loop 16 127", "loop a 9", "loop 1 a", "loop 1.0 9", "loop 0x1 9", "loop 1_0 9", "loop 1, 9", "1 9", " 1 9", "5 1 9", "x 1 9", "lost 0", "0 lost 1", "1 loop 9", "loop 9 1 x", "loop \u0661 9", "loop 1 \uff19", "loop 18446744073709551617 9", "loop 1 18446744073709551625", "loop 1 " + strings.Repeat("9", 1000), "loop " + strings.Repeat("0", 1000) + "1 9", strings.Repeat("loop 1 9", 2), "loop 1 9\x00", "\x00loop 1 9", strings.Repeat(" ", 1000), "reserved0 1", "loop1 9",
	}
	for _, s := range append(list, oddStrings()...) {
		x, ok := impl.ReadProblem(s)
		is(t, "no problem "+brief(s), []any{x, ok}, []any{impl.ChainProblem{}, false})
	}
}

// messedChains returns a disk on which nothing but the header needs to be right, but much of it is as on a disk that was damaged.
func (s *source) messedChains(t *testing.T) []string {
	shapes := chainShapes()
	l := shapes[s.below(int64(len(shapes)))]
	x := plainChainsOf(newChains(t, l.Blocks, l.Size))
	block := func() byte { return byte(l.Data + s.below(l.Blocks-l.Data)) }
	one := func(list ...byte) byte { return list[s.below(int64(len(list)))] }
	names := []string{"A", "A", "B", "C", "DUP00", "DUP01", "LOST00", "LOST01", "ABCDEFGH"}
	for k := range x.entries {
		length := s.below(4 * l.Size)
		e := fmt.Sprint(names[s.below(int64(len(names)))], " ", one(0, block(), block(), block(), block(), byte(s.below(256))), " ", length)
		switch s.below(8) {
		case 0:
			e = ""
		case 1:
			e += " gone"
		case 2:
			e = "?"
		case 3:
			e += "999"
		}
		if s.below(30) > 0 {
			copy(x.bytesOf(k), entryOf(e))
		}
	}
	rare := 1 + s.below(60)
	for at := range x.blocks {
		link := one(0, 0, 0, 254, 255, 255, block(), block(), block(), block(), block(), 253, byte(s.below(256)))
		if x.isData(at) || s.below(rare) == 0 {
			x.all[x.size+at] = link
		}
		if x.isData(at) {
			copy(x.all[at*x.size:(at+1)*x.size], s.bytes(x.size))
		}
	}
	return x.disk()
}

// checksAre compares all functions with those that follow the words of the document.
func checksAre(t *testing.T, disk []string) {
	t.Helper()
	x := plainChainsOf(disk)
	walks, c := impl.WalksOf(disk)
	is(t, "walks", fmt.Sprint(walks, c), fmt.Sprint(x.walks(), impl.OK))
	owners, c := impl.OwnersOf(disk)
	is(t, "owners", fmt.Sprint(owners, c), fmt.Sprint(x.owners(), impl.OK))
	lostAre(t, "lost", disk, fmt.Sprint(x.lost()), fmt.Sprint(x.lostChains()))
	for k := range x.entries {
		list, c := impl.EntryProblems(disk, int64(k))
		is(t, "entry problems", fmt.Sprint(list, c), fmt.Sprint(x.entryProblems(k), impl.OK))
	}
	chainProblemsAre(t, "problems", disk, problemText(x.problems()))
}

// Each data block is free, bad, lost, or in the walk of exactly one entry.
func blocksAreDivided(t *testing.T, disk []string) {
	t.Helper()
	l, _ := impl.LayoutOf(disk)
	free, _ := impl.FreeChains(disk)
	lost, _ := impl.LostBlocks(disk)
	walks, _ := impl.WalksOf(disk)
	owners, _ := impl.OwnersOf(disk)
	chains, _ := impl.LostChains(disk)
	inChains := slices.Sorted(slices.Values(slices.Concat(chains...)))
	is(t, "lost blocks and those of chains", slices.Equal(lost, inChains), true)
	is(t, "an owner for each block", len(owners), len(disk))
	for block := range l.Blocks {
		link, _ := impl.LinkAt(disk, block)
		count, owned := 0, 0
		for k, w := range walks {
			for _, b := range w.Blocks {
				if b == block {
					owned++
					is(t, "owner", owners[block], int64(k))
				}
			}
		}
		if owned == 0 {
			is(t, "no owner", owners[block], int64(-1))
			for _, holds := range []bool{slices.Contains(free, block), link == impl.ChBad, slices.Contains(lost, block)} {
				if holds {
					count++
				}
			}
		}
		if want := min(1, block/l.Data); int64(count+owned) != want && block >= l.Data {
			t.Errorf("block %d is %d of free, bad and lost, and in %d walks", block, count, owned)
		}
	}
}

func TestP20AnyDisks(t *testing.T) {
	from := source(400)
	for i := range 1500 {
		disk := from.messedChains(t)
		if i%3 == 0 {
			disk = from.anyChains(t, int64(i%7))
		}
		before := slices.Clone(disk)
		checksAre(t, disk)
		blocksAreDivided(t, disk)
		is(t, "argument", disk, before)
	}
}

// A disk on which nothing but WriteChain and DeleteChain worked has no problems, and each damage of its table or its directory that matters is one.
func TestP20WrittenDisksAreClean(t *testing.T) {
	from := source(401)
	for range 200 {
		disk := from.anyChains(t, 0)
		chainProblemsAre(t, "written", disk, "")
		bad := disk
		free, _ := impl.FreeChains(disk)
		for _, block := range free {
			if from.below(3) == 0 {
				bad = withLinks(bad, [2]int{int(block), impl.ChBad})
			}
		}
		chainProblemsAre(t, "bad blocks", bad, "")
		owners, _ := impl.OwnersOf(disk)
		for block, owner := range owners {
			link, _ := impl.LinkAt(disk, int64(block))
			other := (link + 1 + from.below(255)) % 256
			damaged := withLinks(disk, [2]int{block, int(other)})
			isFree := owner < 0 && (link == impl.ChFree || link == impl.ChBad) && (other == impl.ChFree || other == impl.ChBad)
			is(t, "another link", impl.CleanChains(damaged), isFree)
		}
	}
}
