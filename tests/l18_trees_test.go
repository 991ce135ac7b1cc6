package tests

import (
	"fmt"
	"maps"
	"math"
	"regexp"
	"slices"
	"strconv"
	"strings"
	"testing"

	"loop.example/g00899/impl"
)

// chars returns numbers as bytes.
func chars(list ...int) string {
	out := []byte{}
	for _, n := range list {
		out = append(out, byte(n))
	}
	return string(out)
}

// sealed returns a block that begins with some bytes, goes on with zero bytes, and has a byte 1 that makes the sum of all a multiple of 256.
func sealed(s string) string {
	out := []byte(s + zeros(32-len(s)))
	out[1] = 0
	sum := 0
	for _, c := range out {
		sum += int(c)
	}
	out[1] = byte(256 - sum%256)
	return string(out)
}

// table returns a hash table with some elements.
func table(elements map[int]int) string {
	out := []byte(zeros(8))
	for hash, block := range elements {
		out[hash] = byte(block)
	}
	return string(out)
}

// rootOf returns the root of a tree, in which some blocks are used.
func rootOf(blocks int, elements map[int]int, used ...int) string {
	bits := []byte(zeros(16))
	for _, block := range used {
		bits[block/8] += 1 << (block % 8)
	}
	return sealed(chars(1, 0, blocks, 0) + table(elements) + string(bits))
}

func fileBlock(next, directory int, name string, size, first int) string {
	return sealed(chars(2, 0, next, directory) + (name + zeros(8))[:8] + chars(size/256, size%256, first))
}

func directoryBlock(next, directory int, name string, elements map[int]int) string {
	return sealed(chars(4, 0, next, directory) + (name + zeros(8))[:8] + table(elements))
}

func dataBlock(file, number, next int, data string) string {
	return sealed(chars(3, 0, file, number, next, len(data)) + data)
}

func newTree(t *testing.T, blocks int64) []string {
	t.Helper()
	disk, c := impl.FormatTree(blocks)
	code(t, "format", c, impl.OK)
	return disk
}

// treeWith returns a tree with some entries, in the order in which they are created: directories, which end with a slash, and files, which are described by their path, a blank, and how many bytes.
func treeWith(t *testing.T, blocks int64, entries ...string) []string {
	t.Helper()
	disk := newTree(t, blocks)
	for _, entry := range entries {
		disk = entered(t, disk, entry)
	}
	return disk
}

func entered(t *testing.T, disk []string, entry string) []string {
	t.Helper()
	f := fileOf(entry)
	path, isDirectory := strings.CutSuffix(entry, "/")
	after, c := impl.WriteTree(disk, f.Name, f.Data)
	if isDirectory {
		after, c = impl.MakeDirectory(disk, path)
	}
	code(t, "create "+entry, c, impl.OK)
	return after
}

// plainTree is the blocks of a tree. Its functions follow the words of the document, one after the other.
type plainTree [][]byte

// plainNode is an entry that a walk has visited. It is lost if it must not be created in a mended tree.
type plainNode struct {
	block, directory int
	path, data       string
	isFile, isLost   bool
}

// plainTour is a walk through a tree.
type plainTour struct {
	plainTree
	seen  map[int]bool
	list  []impl.TreeProblem
	nodes []plainNode
}

func plainTreeOf(disk []string) plainTree {
	x := plainTree{}
	for _, s := range disk {
		x = append(x, []byte(s))
	}
	return x
}

func (x plainTree) disk() []string {
	list := []string{}
	for _, b := range x {
		list = append(list, string(b))
	}
	return list
}

func (x plainTree) fill(block int, s string) { x[block] = []byte(s) }

// set sets bytes of a block, which stays sealed.
func (x plainTree) set(block, at int, numbers ...int) {
	copy(x[block][at:], chars(numbers...))
	x.fill(block, sealed(string(x[block])))
}

// tear changes a byte of a block, which is not sealed any more.
func (x plainTree) tear(block int) { x[block][31]++ }

func (x plainTree) mark(used bool, blocks ...int) {
	for _, block := range blocks {
		bit := byte(1 << (block % 8))
		at := 12 + block/8
		if used {
			x.set(0, at, int(x[0][at]|bit))
		} else {
			x.set(0, at, int(x[0][at]&^bit))
		}
	}
}

func (x plainTree) isMarked(block int) bool { return x[0][12+block/8]>>(block%8)%2 == 1 }

func (x plainTree) isSealed(block int) bool { return string(x[block]) == sealed(string(x[block])) }

func (x plainTree) name(block int) string { return strings.TrimRight(string(x[block][4:12]), "\x00") }

func (x plainTree) size(block int) int { return int(x[block][12])*256 + int(x[block][13]) }

// tableAt returns where the hash table of a directory begins.
func (x plainTree) tableAt(directory int) int {
	if directory == 0 {
		return 4
	}
	return 12
}

func isDisk(disk []string) bool {
	return len(disk) >= 4 && len(disk) <= 128 && !slices.ContainsFunc(disk, func(s string) bool { return len(s) != 32 })
}

func hashOf(name string) int {
	sum := 0
	for i := range len(name) {
		sum += int(name[i])
	}
	return sum % 8
}

func (x plainTree) isRoot() bool {
	used := []int{}
	for block := range x {
		if x.isMarked(block) {
			used = append(used, block)
		}
	}
	elements := map[int]int{}
	for hash := range 8 {
		elements[hash] = int(x[0][4+hash])
	}
	return string(x[0]) == rootOf(len(x), elements, used...)
}

func (x plainTree) isFile(block, directory int) bool {
	b, name, size := x[block], x.name(block), x.size(block)
	return impl.IsName(name) && size <= 512 && string(b) == fileBlock(int(b[2]), directory, name, size, int(b[14]))
}

func (x plainTree) isDirectory(block, directory int) bool {
	b, name := x[block], x.name(block)
	return impl.IsName(name) && string(b) == sealed(chars(4, 0, int(b[2]), directory)+(name + zeros(8))[:8]+string(b[12:20]))
}

func (x plainTree) isData(block, file, number int) bool {
	b := x[block]
	count := int(b[5])
	return count > 0 && count <= 26 && (count == 26 || b[4] == 0) && string(b) == dataBlock(file, number, int(b[4]), string(b[6:6+count]))
}

func (w *plainTour) report(kind, block int) {
	w.list = append(w.list, impl.TreeProblem{Kind: int64(kind), Block: int64(block)})
}

// isNone reports the first two problems of a block, if it has them.
func (w *plainTour) isNone(block int) bool {
	if block >= len(w.plainTree) || w.seen[block] {
		w.report(impl.TpLoop, block)
		return true
	}
	if !w.isSealed(block) {
		w.report(impl.TpChecksum, block)
		return true
	}
	return false
}

func (w *plainTour) visit(directory int, path string) {
	names := map[string]bool{}
	for hash := range 8 {
		for block := int(w.plainTree[directory][w.tableAt(directory)+hash]); block > 0; block = int(w.plainTree[block][2]) {
			if w.isNone(block) {
				break
			}
			isFile := w.isFile(block, directory)
			if !isFile && !w.isDirectory(block, directory) {
				w.report(impl.TpKind, block)
				break
			}
			w.seen[block] = true
			name := w.name(block)
			node := plainNode{block: block, directory: directory, path: path + name, isFile: isFile}
			if hashOf(name) != hash || names[name] {
				w.report(impl.TpHash, block)
				node.isLost = true
			}
			names[name] = true
			if isFile {
				data, ok := w.contents(block)
				node.data, node.isLost = data, node.isLost || !ok
			}
			w.nodes = append(w.nodes, node)
			if !isFile {
				w.visit(block, path+name+"/")
			}
		}
	}
}

func (w *plainTour) contents(file int) (string, bool) {
	data, number := "", 0
	for block := int(w.plainTree[file][14]); block > 0; block = int(w.plainTree[block][4]) {
		number++
		if w.isNone(block) {
			return "", false
		}
		if !w.isData(block, file, number) {
			w.report(impl.TpKind, block)
			return "", false
		}
		w.seen[block] = true
		data += string(w.plainTree[block][6:][:w.plainTree[block][5]])
	}
	if len(data) != w.size(file) {
		w.report(impl.TpSize, file)
		return "", false
	}
	return data, true
}

// tour returns a walk, and whether the root has no problem.
func (x plainTree) tour() (plainTour, bool) {
	w := plainTour{plainTree: x, seen: map[int]bool{}}
	if w.isNone(0) {
		return w, false
	}
	if !x.isRoot() {
		w.report(impl.TpKind, 0)
		return w, false
	}
	w.seen[0] = true
	w.visit(0, "")
	for block := range x {
		if w.seen[block] && !x.isMarked(block) {
			w.report(impl.TpUsed, block)
		}
		if !w.seen[block] && x.isMarked(block) {
			w.report(impl.TpFree, block)
		}
	}
	return w, true
}

// find returns the block of an entry, which is at one of the places of a chain, or 0, and the block and the byte with its number.
func (x plainTree) find(directory int, name string) (block, before, at int) {
	before, at = directory, x.tableAt(directory)+hashOf(name)
	for {
		block = int(x[before][at])
		if block == 0 || x.name(block) == name {
			return block, before, at
		}
		before, at = block, 2
	}
}

// place returns the directory of a path, and what find returns.
func (x plainTree) place(path string) (directory, block int, code int64) {
	names := strings.Split(path, "/")
	for i, name := range names {
		block, _, _ = x.find(directory, name)
		if i == len(names)-1 {
			return directory, block, impl.OK
		}
		if block == 0 {
			return 0, 0, impl.ErrNotFound
		}
		if x[block][0] != 4 {
			return 0, 0, impl.ErrState
		}
		directory = block
	}
	return
}

// lowest takes the lowest free block, or returns 0.
func (x plainTree) lowest() int {
	for block := range x {
		if !x.isMarked(block) {
			x.mark(true, block)
			return block
		}
	}
	return 0
}

func (x plainTree) create(directory int, name string, isFile bool) int {
	block := x.lowest()
	if block == 0 {
		return 0
	}
	at := x.tableAt(directory) + hashOf(name)
	next := int(x[directory][at])
	if isFile {
		x.fill(block, fileBlock(next, directory, name, 0, 0))
	} else {
		x.fill(block, directoryBlock(next, directory, name, nil))
	}
	x.set(directory, at, block)
	return block
}

func (x plainTree) releaseData(file int) {
	for block := int(x[file][14]); block > 0; {
		next := int(x[block][4])
		x.fill(block, zeros(32))
		x.mark(false, block)
		block = next
	}
}

func (x plainTree) store(file int, data string) bool {
	x.set(file, 12, len(data)/256, len(data)%256, 0)
	before, at := file, 14
	for number := 1; data != ""; number++ {
		block, count := x.lowest(), min(26, len(data))
		if block == 0 {
			return false
		}
		x.fill(block, dataBlock(file, number, 0, data[:count]))
		x.set(before, at, block)
		before, at, data = block, 4, data[count:]
	}
	return true
}

// isPath is what paths look like.
var isPath = regexp.MustCompile(`\A[A-Z][A-Z0-9_]{0,7}(/[A-Z][A-Z0-9_]{0,7}){0,3}\z`)

// opened returns the first errors of all functions with a path, and a copy of the tree and the place of the path.
func opened(disk []string, path string) (x plainTree, directory, block int, c int64) {
	if !isDisk(disk) || !isPath.MatchString(path) {
		return nil, 0, 0, impl.ErrInvalid
	}
	x = plainTreeOf(disk)
	if w, _ := x.tour(); len(w.list) > 0 {
		return nil, 0, 0, impl.ErrDamaged
	}
	directory, block, c = x.place(path)
	return x, directory, block, c
}

func plainMade(disk []string, path string) ([]string, int64) {
	x, directory, block, c := opened(disk, path)
	switch {
	case c != impl.OK:
		return nil, c
	case block > 0:
		return nil, impl.ErrExists
	case x.create(directory, path[strings.LastIndex(path, "/")+1:], false) == 0:
		return nil, impl.ErrFull
	}
	return x.disk(), impl.OK
}

func plainStored(disk []string, path, data string) ([]string, int64) {
	if len(data) > 512 {
		return nil, impl.ErrInvalid
	}
	x, directory, block, c := opened(disk, path)
	switch {
	case c != impl.OK:
		return nil, c
	case block > 0 && x[block][0] == 4:
		return nil, impl.ErrState
	case block > 0:
		x.releaseData(block)
	default:
		block = x.create(directory, path[strings.LastIndex(path, "/")+1:], true)
	}
	if block == 0 || !x.store(block, data) {
		return nil, impl.ErrFull
	}
	return x.disk(), impl.OK
}

func plainReadTree(disk []string, path string) (string, int64) {
	x, _, block, c := opened(disk, path)
	switch {
	case c != impl.OK:
		return "", c
	case block == 0:
		return "", impl.ErrNotFound
	case x[block][0] == 4:
		return "", impl.ErrState
	}
	w, _ := x.tour()
	at := slices.IndexFunc(w.nodes, func(n plainNode) bool { return n.block == block })
	return w.nodes[at].data, impl.OK
}

func plainGone(disk []string, path string) ([]string, int64) {
	x, directory, block, c := opened(disk, path)
	switch {
	case c != impl.OK:
		return nil, c
	case block == 0:
		return nil, impl.ErrNotFound
	case x[block][0] == 4 && string(x[block][12:20]) != zeros(8):
		return nil, impl.ErrState
	case x[block][0] == 2:
		x.releaseData(block)
	}
	_, before, at := x.find(directory, x.name(block))
	x.set(before, at, int(x[block][2]))
	x.fill(block, zeros(32))
	x.mark(false, block)
	return x.disk(), impl.OK
}

func plainListed(disk []string, path string) ([]string, int64) {
	below := path + "/"
	if path == "" {
		path, below = "X", ""
	}
	x, _, block, c := opened(disk, path)
	switch {
	case c == impl.ErrInvalid || c == impl.ErrDamaged:
		return nil, c
	case below == "":
	case c != impl.OK:
		return nil, c
	case block == 0:
		return nil, impl.ErrNotFound
	case x[block][0] == 2:
		return nil, impl.ErrState
	}
	list := []string{}
	w, _ := x.tour()
	for _, n := range w.nodes {
		name, isBelow := strings.CutPrefix(n.path, below)
		if !isBelow || strings.Contains(name, "/") {
			continue
		}
		if !n.isFile {
			name += "/"
		}
		list = append(list, name)
	}
	slices.Sort(list)
	return list, impl.OK
}

func plainPaths(disk []string) ([]string, int64) {
	x, _, _, c := opened(disk, "X")
	if c == impl.ErrInvalid || c == impl.ErrDamaged {
		return nil, c
	}
	list := []string{}
	w, _ := x.tour()
	for _, n := range w.nodes {
		if n.isFile {
			list = append(list, n.path)
		}
	}
	slices.Sort(list)
	return list, impl.OK
}

func plainMended(disk []string) ([]string, int64) {
	if !isDisk(disk) {
		return nil, impl.ErrInvalid
	}
	w, ok := plainTreeOf(disk).tour()
	if !ok {
		return nil, impl.ErrDamaged
	}
	x := plainTreeOf(append([]string{rootOf(len(disk), nil, 0)}, slices.Repeat([]string{zeros(32)}, len(disk)-1)...))
	moved := map[int]int{0: 0}
	for _, n := range w.nodes {
		directory, ok := moved[n.directory]
		if !ok || n.isLost {
			continue
		}
		block := x.create(directory, n.path[strings.LastIndex(n.path, "/")+1:], n.isFile)
		if n.isFile {
			x.store(block, n.data)
		} else {
			moved[n.block] = block
		}
	}
	return x.disk(), impl.OK
}

// troublesAre requires the problems of a tree.
func troublesAre(t *testing.T, what string, disk []string, want ...impl.TreeProblem) {
	t.Helper()
	if got := impl.CheckTree(disk); !slices.Equal(got, want) {
		t.Errorf("%q: got %v, want %v", what, got, want)
	}
}

// trouble returns problems of kinds and blocks.
func troubles(pairs ...[2]int) []impl.TreeProblem {
	list := []impl.TreeProblem{}
	for _, r := range pairs {
		list = append(list, impl.TreeProblem{Kind: int64(r[0]), Block: int64(r[1])})
	}
	return list
}

// keeps requires the data of a file.
func keeps(t *testing.T, what string, disk []string, path, want string) {
	t.Helper()
	got, c := impl.ReadTree(disk, path)
	textIs(t, what+": "+path, got, c, want, impl.OK)
}

// pathsAre requires the paths of all files.
func pathsAre(t *testing.T, what string, disk []string, want ...string) {
	t.Helper()
	got, c := impl.TreePaths(disk)
	namesAre(t, what, got, c, want...)
}

// listsAs requires the names in a directory.
func listsAs(t *testing.T, what string, disk []string, path string, want ...string) {
	t.Helper()
	got, c := impl.ListTree(disk, path)
	namesAre(t, what+": "+path, got, c, want...)
}

// freeAre requires a number of free blocks.
func freeAre(t *testing.T, what string, disk []string, want int64) {
	t.Helper()
	got, c := impl.FreeTree(disk)
	is(t, what, []int64{got, c}, []int64{want, impl.OK})
}

// treeCodes returns the codes and the results of all functions with a path.
func treeCodes(disk []string, path, data string) []any {
	made, madeCode := impl.MakeDirectory(disk, path)
	stored, storedCode := impl.WriteTree(disk, path, data)
	read, readCode := impl.ReadTree(disk, path)
	gone, goneCode := impl.DeleteTree(disk, path)
	names, namesCode := impl.ListTree(disk, path)
	return []any{madeCode, made, storedCode, stored, readCode, read, goneCode, gone, namesCode, names}
}

// wholeCodes returns those of the functions without a path, except MendTree.
func wholeCodes(disk []string) []any {
	paths, pathsCode := impl.TreePaths(disk)
	free, freeCode := impl.FreeTree(disk)
	return []any{pathsCode, paths, freeCode, free}
}

// plainFree returns the number of free blocks as a text.
func plainFree(disk []string) (string, int64) {
	x, _, _, c := opened(disk, "X")
	if c == impl.ErrInvalid || c == impl.ErrDamaged {
		return "0", c
	}
	free := 0
	for block := range x {
		if !x.isMarked(block) {
			free++
		}
	}
	return strconv.Itoa(free), impl.OK
}

// outcome returns a result and a code as a text.
func outcome(result any, c int64) string {
	list, isList := result.([]string)
	if !isList {
		list = []string{fmt.Sprint(result)}
	}
	return fmt.Sprintf("%q %s", list, impl.CodeName(c))
}

// treeIsAs compares all functions with those that follow the words of the document.
func treeIsAs(t *testing.T, disk []string, path, data string) {
	t.Helper()
	made, madeCode := plainMade(disk, path)
	stored, storedCode := plainStored(disk, path, data)
	read, readCode := plainReadTree(disk, path)
	gone, goneCode := plainGone(disk, path)
	names, namesCode := plainListed(disk, path)
	paths, pathsCode := plainPaths(disk)
	free, freeCode := plainFree(disk)
	mended, mendedCode := plainMended(disk)
	want := []any{madeCode, made, storedCode, stored, readCode, read, goneCode, gone, namesCode, names, pathsCode, paths, freeCode, free, mendedCode, mended}
	after, c := impl.MendTree(disk)
	got := append(append(treeCodes(disk, path, data), wholeCodes(disk)...), c, after)
	for i := 0; i < len(want); i += 2 {
		is(t, "function "+strconv.Itoa(i/2)+" at "+path, outcome(got[i+1], got[i].(int64)), outcome(want[i+1], want[i].(int64)))
	}
	w, _ := plainTreeOf(disk).tour()
	troublesAre(t, "problems", disk, w.list...)
}

func TestP19Constants(t *testing.T) {
	is(t, "kinds of blocks", []int64{impl.TbRoot, impl.TbFile, impl.TbData, impl.TbDirectory}, []int64{1, 2, 3, 4})
	is(t, "limits", []int64{impl.TreeBytes, impl.TreeHashes, impl.TreeData, impl.MinTree, impl.MaxTree, impl.MaxPath, impl.MaxTreePath}, []int64{32, 8, 26, 4, 128, 35, 4})
	is(t, "kinds of problems", []int64{impl.TpChecksum, impl.TpKind, impl.TpLoop, impl.TpHash, impl.TpSize, impl.TpUsed, impl.TpFree}, []int64{1, 2, 3, 4, 5, 6, 7})
}

func TestP19NewTrees(t *testing.T) {
	for _, blocks := range []int64{4, 5, 7, 8, 9, 12, 100, 127, 128} {
		disk, c := impl.FormatTree(blocks)
		// All bytes are 1, the seal, the number of blocks, and a bit of the bitmap.
		root := chars(1, 512-2-int(blocks), int(blocks)) + zeros(9) + "\x01" + zeros(19)
		diskIs(t, "new", disk, c, append([]string{root}, slices.Repeat([]string{zeros(32)}, int(blocks)-1)...))
		troublesAre(t, "new", disk)
		freeAre(t, "new", disk, blocks-1)
		listsAs(t, "new", disk, "")
		pathsAre(t, "new", disk)
		mended, c := impl.MendTree(disk)
		diskIs(t, "mended", mended, c, disk)
	}
	for _, blocks := range []int64{3, 129, 0, 1, 2, -1, -4, 130, 255, 256, 260, 1<<32 + 4, math.MinInt64, math.MaxInt64} {
		disk, c := impl.FormatTree(blocks)
		noDisk(t, "no tree", disk, c, impl.ErrRange)
	}
}

func TestP19Hashes(t *testing.T) {
	for b := range 256 {
		want := int64(-1)
		if b >= 'A' && b <= 'Z' {
			want = int64(b) % 8
		}
		is(t, "hash of "+strconv.Itoa(b), impl.HashOf(chars(b)), want)
	}
	for name, want := range map[string]int64{
		"A": 1, "H": 0, "AB": 3, "BA": 3, "A0": 1, "A_": 0, "ABCDEFGH": 4, "ZZZZZZZZ": 0, "Z9999999": 1, "LETTER_1": 0,
		"": -1, "a": -1, "ABCDEFGHI": -1, "1A": -1, "_A": -1, "A B": -1, "A/B": -1, "A\x00": -1, "Ab": -1, "\xc4": -1, strings.Repeat("A", 1<<16): -1,
	} {
		is(t, "hash of "+brief(name), impl.HashOf(name), want)
	}
}

func TestP19Seals(t *testing.T) {
	for _, s := range []string{"", "A", zeros(31), zeros(33), strings.Repeat("x", 31), strings.Repeat("x", 33), zeros(64), zeros(16)} {
		is(t, "no block", impl.SealBlock(s), "")
	}
	is(t, "zero bytes", impl.SealBlock(zeros(32)), zeros(32))
	is(t, "a one", impl.SealBlock("\x01"+zeros(31)), "\x01\xff"+zeros(30))
	is(t, "another byte 1", impl.SealBlock("\x01\x07"+zeros(30)), "\x01\xff"+zeros(30))
	is(t, "only byte 1", impl.SealBlock("\x00\xaa"+zeros(30)), zeros(32))
	is(t, "all bytes", impl.SealBlock(strings.Repeat("\xff", 32)), "\xff\x1f"+strings.Repeat("\xff", 30))
	from := source(330)
	for range 500 {
		s := from.bytes(32)
		got := impl.SealBlock(s)
		is(t, "all other bytes", got[:1]+got[2:], s[:1]+s[2:])
		is(t, "sum", impl.Sum16(got)%256, int64(0))
		is(t, "sealed again", impl.SealBlock(got), got)
	}
}

func TestP19TheExampleByHand(t *testing.T) {
	disk := newTree(t, 12)
	disk, c := impl.MakeDirectory(disk, "D")
	want := slices.Repeat([]string{zeros(32)}, 12)
	// The seal is 256 less than the sum of all other bytes, or a multiple of it.
	want[0] = chars(1, 239, 12, 0, 0, 0, 0, 0, 1, 0, 0, 0, 3) + zeros(19)
	want[1] = chars(4, 184, 0, 0, 'D') + zeros(27)
	diskIs(t, "a directory", disk, c, want)
	disk, c = impl.WriteTree(disk, "D/FILE", "0123456789012345678901234567890")
	want[0] = chars(1, 211, 12, 0, 0, 0, 0, 0, 1, 0, 0, 0, 31) + zeros(19)
	want[1] = chars(4, 182, 0, 0, 'D') + zeros(7) + "\x02" + zeros(19)
	want[2] = chars(2, 187, 0, 1, 'F', 'I', 'L', 'E', 0, 0, 0, 0, 0, 31, 3) + zeros(17)
	want[3] = chars(3, 147, 2, 1, 4, 26) + "01234567890123456789012345"
	want[4] = chars(3, 230, 2, 2, 0, 5) + "67890" + zeros(21)
	diskIs(t, "a file", disk, c, want)
	disk, c = impl.WriteTree(disk, "L", "x")
	disk, c = impl.DeleteTree(disk, "D/FILE")
	want[0] = chars(1, 139, 12, 0, 0, 0, 0, 0, 5, 0, 0, 0, 99) + zeros(19)
	want[1] = chars(4, 184, 0, 0, 'D') + zeros(27)
	want[2], want[3], want[4] = zeros(32), zeros(32), zeros(32)
	want[5] = chars(2, 170, 1, 0, 'L', 0, 0, 0, 0, 0, 0, 0, 0, 1, 6) + zeros(17)
	want[6] = chars(3, 126, 5, 1, 0, 1, 'x') + zeros(25)
	diskIs(t, "another file with the same hash, and the first one deleted", disk, c, want)
	listsAs(t, "names", disk, "", "D/", "L")
	pathsAre(t, "paths", disk, "L")
	freeAre(t, "free", disk, 8)
	troublesAre(t, "problems", disk)
}

// otherDisks are lists that are no disks.
func otherDisks(t *testing.T) map[string][]string {
	disk := treeWith(t, 128, "A 30")
	list := map[string][]string{"nothing": nil, "no blocks": {}, "one too few": newTree(t, 4)[:3], "one too many": append(slices.Clone(disk), zeros(32)), "a chain disk": newChains(t, 16, 16), "many": make([]string, 100000), "a root alone": disk[:1]}
	for _, block := range []int{0, 1, 2, 77, 127} {
		for what, s := range map[string]string{"short": disk[block][:31], "long": disk[block] + "\x00", "empty": "", "twice": disk[block] + disk[block]} {
			other := slices.Clone(disk)
			other[block] = s
			list[what+" block "+strconv.Itoa(block)] = other
		}
	}
	return list
}

func TestP19NoDisks(t *testing.T) {
	for what, disk := range otherDisks(t) {
		troublesAre(t, what, disk, troubles([2]int{2, 0})...)
		for _, path := range []string{"A", "A/B", "X", "", "a"} {
			codesAre(t, what, impl.ErrInvalid, treeCodes(disk, path, "x")...)
		}
		codesAre(t, what, impl.ErrInvalid, wholeCodes(disk)...)
		mended, c := impl.MendTree(disk)
		noDisk(t, what, mended, c, impl.ErrInvalid)
	}
}

// The first four and the last possible block numbers of disks.
func TestP19SmallAndLargeTrees(t *testing.T) {
	small := treeWith(t, 4, "A 1", "B 0")
	freeAre(t, "small", small, 0)
	keeps(t, "small", small, "A", someData("A", 1))
	list, c := impl.MakeDirectory(small, "C")
	noDisk(t, "full", list, c, impl.ErrFull)
	large := newTree(t, 128)
	for i := range 6 {
		large = entered(t, large, "A"+strconv.Itoa(i)+" 500")
	}
	freeAre(t, "large", large, 128-1-6*21)
	large = entered(t, large, "LAST/")
	is(t, "the last block", large[127], directoryBlock(64, 0, "LAST", nil))
	is(t, "the whole bitmap", large[0][12:28], strings.Repeat("\xff", 16))
	freeAre(t, "full", large, 0)
	troublesAre(t, "full", large)
	list, c = impl.WriteTree(large, "B", "")
	noDisk(t, "full", list, c, impl.ErrFull)
	mended, c := impl.MendTree(large)
	code(t, "mended", c, impl.OK)
	freeAre(t, "mended", mended, 0)
	for i := range 6 {
		name := "A" + strconv.Itoa(i)
		keeps(t, "mended", mended, name, fileOf(name+" 500").Data)
	}
}

// sampleTree returns a tree of 16 blocks: in the root the file A (block 4, its data in block 7), behind it the file I (block 6), and the directory D (block 1); in that the file A (block 2, its data in the blocks 3 and 5) and the directory E (block 8).
func sampleTree() []string {
	disk := slices.Repeat([]string{zeros(32)}, 16)
	disk[0] = rootOf(16, map[int]int{1: 4, 4: 1}, 0, 1, 2, 3, 4, 5, 6, 7, 8)
	disk[1] = directoryBlock(0, 0, "D", map[int]int{1: 2, 5: 8})
	disk[2] = fileBlock(0, 1, "A", 30, 3)
	disk[3] = dataBlock(2, 1, 5, "abcdefghijklmnopqrstuvwxyz")
	disk[4] = fileBlock(6, 0, "A", 5, 7)
	disk[5] = dataBlock(2, 2, 0, "0123")
	disk[6] = fileBlock(0, 0, "I", 0, 0)
	disk[7] = dataBlock(4, 1, 0, "ALPHA")
	disk[8] = directoryBlock(0, 1, "E", nil)
	return disk
}

// changedTree returns the sample tree after a change.
func changedTree(change func(x plainTree)) []string {
	x := plainTreeOf(sampleTree())
	change(x)
	return x.disk()
}

// isDamaged requires that all functions refuse a tree because of its problems, but what is invalid is still invalid.
func isDamaged(t *testing.T, what string, disk []string) {
	t.Helper()
	for _, path := range []string{"A", "D", "D/A", "X", "A/X", "X/Y"} {
		codesAre(t, what, impl.ErrDamaged, treeCodes(disk, path, "x")...)
	}
	codesAre(t, what, impl.ErrDamaged, wholeCodes(disk)...)
	names, c := impl.ListTree(disk, "")
	noDisk(t, what, names, c, impl.ErrDamaged)
	codesAre(t, what, impl.ErrInvalid, treeCodes(disk, "A//B", "x")...)
	list, c := impl.WriteTree(disk, "A", strings.Repeat("x", 513))
	noDisk(t, what, list, c, impl.ErrInvalid)
}

func TestP19TheSampleTree(t *testing.T) {
	disk := sampleTree()
	troublesAre(t, "sample", disk)
	listsAs(t, "sample", disk, "", "A", "D/", "I")
	listsAs(t, "sample", disk, "D", "A", "E/")
	listsAs(t, "sample", disk, "D/E")
	pathsAre(t, "sample", disk, "A", "D/A", "I")
	freeAre(t, "sample", disk, 7)
	keeps(t, "sample", disk, "A", "ALPHA")
	keeps(t, "sample", disk, "I", "")
	keeps(t, "sample", disk, "D/A", "abcdefghijklmnopqrstuvwxyz0123")
}

func TestP19Roots(t *testing.T) {
	for what, r := range map[string]struct {
		change func(x plainTree)
		kind   int
	}{
		"not sealed":                    {func(x plainTree) { x.tear(0) }, 1},
		"another seal":                  {func(x plainTree) { x[0][1]++ }, 1},
		"not sealed, of another kind":   {func(x plainTree) { x[0][0] = 4 }, 1},
		"a file":                        {func(x plainTree) { x.set(0, 0, 2) }, 2},
		"data":                          {func(x plainTree) { x.set(0, 0, 3) }, 2},
		"a directory":                   {func(x plainTree) { x.set(0, 0, 4) }, 2},
		"no kind":                       {func(x plainTree) { x.set(0, 0, 0) }, 2},
		"zero bytes":                    {func(x plainTree) { x.fill(0, zeros(32)) }, 2},
		"one block more":                {func(x plainTree) { x.set(0, 2, 17) }, 2},
		"one block less":                {func(x plainTree) { x.set(0, 2, 15) }, 2},
		"no blocks":                     {func(x plainTree) { x.set(0, 2, 0) }, 2},
		"a bit for the first too many":  {func(x plainTree) { x.set(0, 14, 1) }, 2},
		"a bit for the last too many":   {func(x plainTree) { x.set(0, 27, 128) }, 2},
		"the byte 3":                    {func(x plainTree) { x.set(0, 3, 1) }, 2},
		"the byte behind the bitmap":    {func(x plainTree) { x.set(0, 28, 1) }, 2},
		"the last byte":                 {func(x plainTree) { x.set(0, 31, 1) }, 2},
		"a problem of another one, too": {func(x plainTree) { x.set(0, 31, 1); x.tear(4); x.mark(false, 0, 1) }, 2},
	} {
		disk := changedTree(r.change)
		troublesAre(t, what, disk, troubles([2]int{r.kind, 0})...)
		isDamaged(t, what, disk)
		mended, c := impl.MendTree(disk)
		noDisk(t, what, mended, c, impl.ErrDamaged)
	}
	// The bits of a byte that all but the last of them stand for blocks.
	for _, blocks := range []int64{4, 15, 127} {
		x := plainTreeOf(newTree(t, blocks))
		x.mark(true, int(blocks-1))
		troublesAre(t, "the last block", x.disk(), troubles([2]int{7, int(blocks - 1)})...)
		x.mark(true, int(blocks))
		troublesAre(t, "the one behind it", x.disk(), troubles([2]int{2, 0})...)
	}
}

// treeChange changes the sample tree: it has one problem, and everything is kept but some files.
type treeChange struct {
	change  func(x plainTree)
	problem [2]int
	kept    string
}

// singleProblems are the changes of the sample tree that make one problem. What is not visited then is not marked as used.
func singleProblems() map[string]treeChange {
	const all, noI, noA, noDA = "A D/A I", "A D/A", "D/A I", "A I"
	loop := func(block, at, number, want int, kept string, unmarked ...int) treeChange {
		return treeChange{func(x plainTree) { x.set(block, at, number); x.mark(false, unmarked...) }, [2]int{3, want}, kept}
	}
	kind := func(block, at, number int, kept string, unmarked ...int) treeChange {
		return treeChange{func(x plainTree) { x.set(block, at, number); x.mark(false, unmarked...) }, [2]int{2, block}, kept}
	}
	torn := func(block int, kept string, unmarked ...int) treeChange {
		return treeChange{func(x plainTree) { x.tear(block); x.mark(false, unmarked...) }, [2]int{1, block}, kept}
	}
	size := func(block, number, first int, kept string, unmarked ...int) treeChange {
		return treeChange{func(x plainTree) { x.set(block, 12, 0, number, first); x.mark(false, unmarked...) }, [2]int{5, block}, kept}
	}
	list := map[string]treeChange{
		"the entry behind all blocks":               loop(0, 4, 16, 16, all),
		"the entry 255":                             loop(0, 11, 255, 255, all),
		"the next entry behind all blocks":          loop(6, 2, 16, 16, all),
		"a list of entries that goes back":          loop(6, 2, 4, 4, all),
		"an entry that is its own next one":         loop(6, 2, 6, 6, all),
		"an entry below two elements":               loop(0, 11, 4, 4, all),
		"a directory in itself":                     loop(1, 12, 1, 1, all),
		"a directory in a directory in it":          loop(8, 12, 1, 1, all),
		"an entry of another directory":             loop(8, 13, 2, 2, all),
		"a data block as an entry":                  loop(6, 2, 7, 7, all),
		"a directory as a next entry below it":      loop(8, 2, 1, 1, all),
		"a file as its own data":                    loop(2, 14, 2, 2, noDA, 3, 5),
		"a first data block behind all blocks":      loop(2, 14, 16, 16, noDA, 3, 5),
		"a next data block behind all blocks":       loop(3, 4, 200, 200, noDA, 5),
		"a data block that is its own next one":     loop(3, 4, 3, 3, noDA, 5),
		"data blocks that end in a visited entry":   loop(3, 4, 6, 6, noDA, 5),
		"data blocks that end in the directory":     loop(3, 4, 1, 1, noDA, 5),
		"data blocks that end in those of another":  loop(3, 4, 7, 7, noDA, 5),
		"data blocks of another file":               loop(2, 14, 7, 7, noDA, 3, 5),
		"an entry that is not sealed":               torn(4, "D/A", 4, 6, 7),
		"a next entry that is not sealed":           torn(6, noI, 6),
		"a directory that is not sealed":            torn(1, noDA, 1, 2, 3, 5, 8),
		"an entry in a directory that is not":       torn(2, noDA, 2, 3, 5),
		"a data block that is not sealed":           torn(3, noDA, 3, 5),
		"the last data block that is not sealed":    torn(5, noDA, 5),
		"an entry that is the root":                 kind(6, 0, 1, noI, 6),
		"an entry that is data":                     kind(6, 0, 3, noI, 6),
		"an entry of no kind":                       kind(6, 0, 0, noI, 6),
		"an entry of the kind 5":                    kind(6, 0, 5, noI, 6),
		"a file of another directory":               kind(6, 3, 1, noI, 6),
		"a file of a directory that does not exist": kind(6, 3, 16, noI, 6),
		"a directory of another directory":          kind(8, 3, 0, all, 8),
		"a file without a name":                     kind(6, 4, 0, noI, 6),
		"a file with a small letter":                kind(6, 4, 'i', noI, 6),
		"a file with a digit":                       kind(6, 4, '1', noI, 6),
		"a byte behind the name of a file":          kind(6, 6, 'A', noI, 6),
		"the last byte of a name":                   kind(6, 11, 1, noI, 6),
		"a directory without a name":                kind(8, 4, 0, all, 8),
		"a byte behind the name of a directory":     kind(8, 11, 'E', all, 8),
		"the byte behind a file":                    kind(6, 15, 1, noI, 6),
		"the last byte of a file":                   kind(6, 31, 255, noI, 6),
		"the byte behind a directory":               kind(8, 20, 1, all, 8),
		"the last byte of a directory":              kind(8, 31, 1, all, 8),
		"a data block that is a file":               kind(3, 0, 2, noDA, 3, 5),
		"a data block that is a directory":          kind(3, 0, 4, noDA, 3, 5),
		"a data block of no kind":                   kind(3, 0, 0, noDA, 3, 5),
		"a data block of another file":              kind(3, 2, 4, noDA, 3, 5),
		"a first data block with the number 0":      kind(3, 3, 0, noDA, 3, 5),
		"a first data block with the number 2":      kind(3, 3, 2, noDA, 3, 5),
		"a second data block with the number 1":     kind(5, 3, 1, noDA, 5),
		"a data block with 25 bytes before another": kind(3, 5, 25, noDA, 3, 5),
		"a last data block with a next one":         kind(5, 4, 9, noDA, 5),
		"a data block of 0 bytes":                   kind(7, 5, 0, noA, 7),
		"a data block of 27 bytes":                  kind(5, 5, 27, noDA, 5),
		"a data block of 255 bytes":                 kind(7, 5, 255, noA, 7),
		"a byte behind the data":                    kind(7, 11, 1, noA, 7),
		"the last byte behind the data":             kind(5, 31, 1, noDA, 5),
		"less bytes than there are":                 kind(5, 5, 3, noDA, 5),
		"a size of one more":                        size(2, 31, 3, noDA),
		"a size of one less":                        size(2, 29, 3, noDA),
		"a size and no data block":                  size(4, 5, 0, noA, 7),
		"a data block and no size":                  size(4, 0, 7, noA),
		"a size in an empty file":                   size(6, 1, 0, noI),
	}
	list["a size of 513"] = treeChange{func(x plainTree) { x.set(6, 12, 2, 1); x.mark(false, 6) }, [2]int{2, 6}, noI}
	list["a size of 512"] = treeChange{func(x plainTree) { x.set(6, 12, 2, 0) }, [2]int{5, 6}, noI}
	list["a free block as an entry"] = treeChange{func(x plainTree) { x.set(6, 2, 9) }, [2]int{2, 9}, all}
	list["a free block as data"] = treeChange{func(x plainTree) { x.set(6, 14, 9) }, [2]int{2, 9}, noI}
	list["a data block without bytes"] = treeChange{func(x plainTree) { x.fill(7, dataBlock(4, 1, 0, "")); x.set(4, 13, 0); x.mark(false, 7) }, [2]int{2, 7}, noA}
	list["26 bytes that are said to be 27"] = treeChange{func(x plainTree) { x.set(3, 5, 27); x.mark(false, 3, 5) }, [2]int{2, 3}, noDA}
	list["an entry that is neither sealed nor one"] = treeChange{func(x plainTree) { x[6][0] = 3; x.mark(false, 6) }, [2]int{1, 6}, noI}
	list["data that are neither sealed nor data"] = treeChange{func(x plainTree) { x[7][0] = 9; x.mark(false, 7) }, [2]int{1, 7}, noA}
	list["a file that is not visited yet as data"] = treeChange{func(x plainTree) { x.set(4, 14, 1); x.mark(false, 7) }, [2]int{2, 1}, noA}
	list["an entry below another element"] = treeChange{func(x plainTree) { x.set(4, 2, 0); x.set(0, 10, 6) }, [2]int{4, 6}, noI}
	list["a directory below another element"] = treeChange{func(x plainTree) { x.set(0, 4, 1, 4, 0, 0, 0) }, [2]int{4, 1}, noDA}
	list["a second name below the same element"] = treeChange{func(x plainTree) { x.set(6, 4, 'A') }, [2]int{4, 6}, noI}
	list["a second name below another element"] = treeChange{func(x plainTree) { x.set(6, 4, 'A'); x.set(4, 2, 0); x.set(0, 11, 6) }, [2]int{4, 6}, noI}
	list["a file and a directory with the same name"] = treeChange{func(x plainTree) { x.set(8, 4, 'A'); x.set(2, 2, 8); x.set(1, 17, 0) }, [2]int{4, 8}, "A D/A I"}
	for block := range 9 {
		list["not marked "+strconv.Itoa(block)] = treeChange{func(x plainTree) { x.mark(false, block) }, [2]int{6, block}, all}
	}
	for block := 9; block < 16; block++ {
		list["marked "+strconv.Itoa(block)] = treeChange{func(x plainTree) { x.mark(true, block) }, [2]int{7, block}, all}
	}
	return list
}

func TestP19EachProblemAlone(t *testing.T) {
	for what, r := range singleProblems() {
		disk := changedTree(r.change)
		troublesAre(t, what, disk, troubles(r.problem)...)
		isDamaged(t, what, disk)
		mended, c := impl.MendTree(disk)
		want, wantCode := plainMended(disk)
		code(t, what, wantCode, impl.OK)
		diskIs(t, what+": mended", mended, c, want)
		troublesAre(t, what+": mended", mended)
		pathsAre(t, what+": mended", mended, strings.Fields(r.kept)...)
		for _, path := range strings.Fields(r.kept) {
			data, _ := impl.ReadTree(sampleTree(), path)
			keeps(t, what+": mended", mended, path, data)
		}
	}
}

// What looks like a problem, but is none.
func TestP19NoProblems(t *testing.T) {
	for what, change := range map[string]func(x plainTree){
		"bytes in free blocks": func(x plainTree) { x.fill(9, strings.Repeat("x", 32)); x.fill(15, fileBlock(4, 0, "A", 5, 7)) },
		"the longest names": func(x plainTree) {
			x.fill(6, fileBlock(0, 0, "I_000000", 0, 0))
			x.set(0, 5, 4)
			x.set(4, 2, 0)
			x.set(0, 4+hashOf("I_000000"), 6)
		},
		"the same name elsewhere":     func(x plainTree) { x.set(8, 4, 'D'); x.set(1, 17, 0); x.set(1, 16, 8) },
		"entries in another order":    func(x plainTree) { x.set(0, 5, 6); x.set(6, 2, 4); x.set(4, 2, 0) },
		"one byte in the last block":  func(x plainTree) { x.fill(5, dataBlock(2, 2, 0, "0")); x.set(2, 12, 0, 27) },
		"26 bytes in the last block":  func(x plainTree) { x.fill(5, dataBlock(2, 2, 0, strings.Repeat("0", 26))); x.set(2, 12, 0, 52) },
		"data of zero bytes":          func(x plainTree) { x.fill(7, dataBlock(4, 1, 0, zeros(5))) },
		"blocks in descending order":  func(x plainTree) { x.fill(9, dataBlock(6, 1, 0, "x")); x.set(6, 12, 0, 1, 9); x.mark(true, 9) },
		"a directory where a file is": func(x plainTree) { x.fill(6, directoryBlock(0, 0, "I", nil)) },
	} {
		disk := changedTree(change)
		troublesAre(t, what, disk)
		treeIsAs(t, disk, "D/A", "new data")
		mended, c := impl.MendTree(disk)
		code(t, what, c, impl.OK)
		before, _ := impl.TreePaths(disk)
		pathsAre(t, what+": mended", mended, before...)
		for _, path := range before {
			data, _ := impl.ReadTree(disk, path)
			keeps(t, what+": mended", mended, path, data)
		}
	}
}

// Each list ends with its first problem, and what is behind it is found to be marked; the walk goes on with the next element.
func TestP19ProblemsInOrder(t *testing.T) {
	for what, r := range map[string]struct {
		change func(x plainTree)
		want   []impl.TreeProblem
	}{
		"the first entry of a list":                   {func(x plainTree) { x.tear(4) }, troubles([2]int{1, 4}, [2]int{7, 4}, [2]int{7, 6}, [2]int{7, 7})},
		"a directory":                                 {func(x plainTree) { x.set(1, 31, 1) }, troubles([2]int{2, 1}, [2]int{7, 1}, [2]int{7, 2}, [2]int{7, 3}, [2]int{7, 5}, [2]int{7, 8})},
		"the first data block":                        {func(x plainTree) { x.tear(3); x.tear(5) }, troubles([2]int{1, 3}, [2]int{7, 3}, [2]int{7, 5})},
		"the hash, the data, and then the next entry": {func(x plainTree) { x.set(4, 4, 'B'); x.tear(7); x.set(6, 12, 0, 9) }, troubles([2]int{4, 4}, [2]int{1, 7}, [2]int{5, 6}, [2]int{7, 7})},
		"the hash and the size":                       {func(x plainTree) { x.set(4, 4, 'B'); x.set(4, 13, 4) }, troubles([2]int{4, 4}, [2]int{5, 4})},
		"a wrong hash and a name that was found":      {func(x plainTree) { x.set(0, 4, 6); x.set(6, 4, 'A'); x.set(4, 2, 0) }, troubles([2]int{4, 6}, [2]int{4, 4})},
		"a directory that comes before its next entry": {func(x plainTree) {
			// In the root, below element 4: D, behind it L, whose data is a block of D/A.
			x.fill(9, fileBlock(0, 0, "L", 3, 5))
			x.set(1, 2, 9)
			x.tear(2)
			x.set(8, 12, 77)
			x.mark(true, 9)
		}, troubles([2]int{1, 2}, [2]int{3, 77}, [2]int{2, 5}, [2]int{7, 2}, [2]int{7, 3}, [2]int{7, 5})},
		"a directory in a directory, before its next entry": {func(x plainTree) {
			x.fill(9, fileBlock(0, 1, "M", 3, 0))
			x.set(8, 2, 9)
			x.set(8, 12, 77)
			x.mark(true, 9)
		}, troubles([2]int{3, 77}, [2]int{5, 9})},
		"all blocks below it were visited before": {func(x plainTree) {
			x.fill(9, fileBlock(0, 0, "L", 3, 5))
			x.set(1, 2, 9)
			x.mark(true, 9)
		}, troubles([2]int{3, 5})},
		"marks, in ascending order behind the others": {func(x plainTree) {
			x.set(0, 11, 200)
			x.set(0, 4, 16)
			x.mark(false, 2, 7, 0)
			x.mark(true, 9, 15)
			x.tear(8)
			x.set(6, 13, 1)
		}, troubles([2]int{3, 16}, [2]int{5, 6}, [2]int{1, 8}, [2]int{3, 200}, [2]int{6, 0}, [2]int{6, 2}, [2]int{6, 7}, [2]int{7, 8}, [2]int{7, 9}, [2]int{7, 15})},
		"an entry that was taken as data": {func(x plainTree) {
			// The data of A begin with a sealed data block that is also an entry of D.
			x.set(1, 13, 7)
		}, troubles([2]int{3, 7}, [2]int{7, 2}, [2]int{7, 3}, [2]int{7, 5})},
		"an entry that is first of another directory": {func(x plainTree) { x.set(0, 4, 2) }, troubles([2]int{2, 2})},
		"a data block first as an entry":              {func(x plainTree) { x.set(0, 4, 7) }, troubles([2]int{2, 7})},
		"three entries with a name": {func(x plainTree) {
			x.fill(9, fileBlock(10, 1, "E", 0, 0))
			x.fill(10, directoryBlock(0, 1, "E", nil))
			x.set(8, 2, 9)
			x.mark(true, 9, 10)
		}, troubles([2]int{4, 9}, [2]int{4, 10})},
	} {
		disk := changedTree(r.change)
		troublesAre(t, what, disk, r.want...)
		isDamaged(t, what, disk)
		treeIsAs(t, disk, "A", "x")
	}
}

// noPaths are no paths.
func noPaths() []string {
	return append(oddStrings()[4:], "/", "//", "/A", "A/", "A//B", "A/B/", "/A/B", "A/B//C", "A/B/C/D/E", "A/B/C/D/", "ABCDEFGHI", "A/ABCDEFGHI", "ABCDEFGHI/A", "a/A", "A/a", "A/1", "A/B C", "A/.", "A/..", ".", "..", "A\x00", "A/B\n", "A\\B", "\u00c4/A", strings.Repeat("A/", 100000)+"A", strings.Repeat("/", 100000))
}

func TestP19NoPaths(t *testing.T) {
	disk := sampleTree()
	for _, path := range noPaths() {
		if isPath.MatchString(path) {
			continue
		}
		codesAre(t, "no path "+brief(path), impl.ErrInvalid, treeCodes(disk, path, "x")...)
	}
	codes := treeCodes(disk, "", "x")
	codesAre(t, "the empty path", impl.ErrInvalid, codes[:8]...)
	namesAre(t, "the root", codes[9].([]string), codes[8].(int64), "A", "D/", "I")
}

func TestP19Paths(t *testing.T) {
	disk := newTree(t, 64)
	for _, path := range []string{"A", "ABCDEFGH", "Z_9", "ABCDEFGH/ABCDEFGH", "ABCDEFGH/ABCDEFGH/ABCDEFGH", "A/B", "A/B/C"} {
		disk = entered(t, disk, path+"/")
	}
	for _, path := range []string{"A/B/C/D", "ABCDEFGH/ABCDEFGH/ABCDEFGH/ABCDEFGH", "A/B/C/A", "A/B/F", "A/F", "F", "F_234567"} {
		for _, count := range []int{0, 30} {
			data := someData(path, count)
			after, c := impl.WriteTree(disk, path, data)
			code(t, path, c, impl.OK)
			keeps(t, "written", after, path, data)
			is(t, "written", troubles(), append(troubles(), impl.CheckTree(after)...))
			disk = after
		}
	}
	pathsAre(t, "all", disk, "A/B/C/A", "A/B/C/D", "A/B/F", "A/F", "ABCDEFGH/ABCDEFGH/ABCDEFGH/ABCDEFGH", "F", "F_234567")
	listsAs(t, "all", disk, "", "A/", "ABCDEFGH/", "F", "F_234567", "Z_9/")
	listsAs(t, "all", disk, "A", "B/", "F")
	listsAs(t, "all", disk, "A/B", "C/", "F")
	listsAs(t, "all", disk, "A/B/C", "A", "D")
	disk = entered(t, disk, "A/B/C/E/")
	listsAs(t, "four names", disk, "A/B/C/E")
	gone, c := impl.DeleteTree(disk, "A/B/C/E")
	code(t, "four names", c, impl.OK)
	listsAs(t, "four names", gone, "A/B/C", "A", "D")
	codesAre(t, "five names", impl.ErrInvalid, treeCodes(disk, "A/B/C/E/F", "")...)
}

// Below the tree are the files F and D/F, and the directories D, D/E and N.
func TestP19ErrorsOfPaths(t *testing.T) {
	disk := treeWith(t, 16, "F 3", "D/", "D/F 30", "D/E/", "N/")
	const ok, notFound, exists, state = impl.OK, impl.ErrNotFound, impl.ErrExists, impl.ErrState
	for path, want := range map[string][5]int64{
		"X":       {ok, ok, notFound, notFound, notFound},
		"F":       {exists, ok, ok, ok, state},
		"D":       {exists, state, state, state, ok},
		"N":       {exists, state, state, ok, ok},
		"D/F":     {exists, ok, ok, ok, state},
		"D/E":     {exists, state, state, ok, ok},
		"D/X":     {ok, ok, notFound, notFound, notFound},
		"D/E/X":   {ok, ok, notFound, notFound, notFound},
		"F/X":     {state, state, state, state, state},
		"F/F":     {state, state, state, state, state},
		"X/F":     {notFound, notFound, notFound, notFound, notFound},
		"F/X/Y":   {state, state, state, state, state},
		"X/F/Y":   {notFound, notFound, notFound, notFound, notFound},
		"D/F/X":   {state, state, state, state, state},
		"D/X/F":   {notFound, notFound, notFound, notFound, notFound},
		"D/X/F/Y": {notFound, notFound, notFound, notFound, notFound},
		"D/F/X/Y": {state, state, state, state, state},
		"N/F":     {ok, ok, notFound, notFound, notFound},
		"N/F/X":   {notFound, notFound, notFound, notFound, notFound},
		"E":       {ok, ok, notFound, notFound, notFound},
	} {
		results := treeCodes(disk, path, "x")
		for i, code := range want {
			is(t, "function "+strconv.Itoa(i)+" of "+path, impl.CodeName(results[2*i].(int64)), impl.CodeName(code))
		}
		noMore(t, path, results...)
		treeIsAs(t, disk, path, "x")
	}
}

func TestP19FilesOfAllSizes(t *testing.T) {
	for count := range 515 {
		data := someData("DATA", count)
		disk, c := impl.WriteTree(treeWith(t, 26, "D/", "OTHER 3"), "D/F", data)
		if count > 512 {
			noDisk(t, "too much", disk, c, impl.ErrInvalid)
			continue
		}
		code(t, "written", c, impl.OK)
		keeps(t, "written", disk, "D/F", data)
		keeps(t, "another file", disk, "OTHER", someData("OTHER", 3))
		freeAre(t, "as many blocks as needed", disk, int64(26-5-up(count, 26)))
		troublesAre(t, "written", disk)
	}
	long := strings.Repeat("x", 1<<16)
	for _, path := range []string{"A", "X/A", "", "a"} {
		list, c := impl.WriteTree(sampleTree(), path, long)
		noDisk(t, "too much at "+path, list, c, impl.ErrInvalid)
	}
}

// The file F has two data blocks, and the tree one or no more free block.
func TestP19WritingOver(t *testing.T) {
	for _, r := range []struct {
		entries []string
		written string
		want    int64
	}{
		{[]string{"F 52"}, "F 0", impl.OK},
		{[]string{"F 52"}, "F 26", impl.OK},
		{[]string{"F 52"}, "F 27", impl.OK},
		{[]string{"F 52"}, "F 52", impl.OK},
		{[]string{"F 52"}, "F 53", impl.OK},
		{[]string{"F 52"}, "F 104", impl.OK},
		{[]string{"F 52"}, "F 105", impl.ErrFull},
		{[]string{"F 52"}, "F 512", impl.ErrFull},
		{[]string{"F 52", "G 1"}, "F 52", impl.OK},
		{[]string{"F 52", "G 1"}, "F 53", impl.ErrFull},
		{[]string{"F 52", "G 1"}, "G 26", impl.OK},
		{[]string{"F 52", "G 1"}, "G 27", impl.ErrFull},
		{[]string{"F 52", "G 1"}, "H 0", impl.ErrFull},
		{[]string{"F 52", "D/"}, "G 0", impl.OK},
		{[]string{"F 52", "D/"}, "G 1", impl.ErrFull},
		{[]string{"F 52"}, "G 26", impl.OK},
		{[]string{"F 52"}, "G 27", impl.ErrFull},
		{[]string{"F 0", "G 0"}, "F 78", impl.OK},
		{[]string{"F 0", "G 0"}, "F 79", impl.ErrFull},
	} {
		disk, f := treeWith(t, 6, r.entries...), fileOf(r.written)
		got, c := impl.WriteTree(disk, f.Name, f.Data)
		what := brief(r.entries) + r.written
		treeIsAs(t, disk, f.Name, f.Data)
		if r.want != impl.OK {
			noDisk(t, what, got, c, r.want)
			continue
		}
		code(t, what, c, impl.OK)
		keeps(t, what, got, f.Name, f.Data)
		troublesAre(t, what, got)
		for _, entry := range r.entries {
			other := fileOf(entry)
			if other.Name != f.Name && !strings.HasSuffix(entry, "/") {
				keeps(t, what, got, other.Name, other.Data)
			}
		}
	}
}

// Old data blocks become zero bytes, new data are in the lowest free blocks, and the entry stays where it is.
func TestP19BlocksOfFiles(t *testing.T) {
	disk := treeWith(t, 16, "A 60", "B 30", "I 60")
	got, c := impl.WriteTree(disk, "A", "short")
	want := slices.Clone(disk)
	want[0] = rootOf(16, map[int]int{1: 8, 2: 5}, 0, 1, 2, 5, 6, 7, 8, 9, 10, 11)
	want[1] = fileBlock(0, 0, "A", 5, 2)
	want[2], want[3], want[4] = dataBlock(1, 1, 0, "short"), zeros(32), zeros(32)
	diskIs(t, "shorter", got, c, want)
	data := someData("LONG", 100)
	got, c = impl.WriteTree(got, "B", data)
	want[0] = rootOf(16, map[int]int{1: 8, 2: 5}, 0, 1, 2, 3, 4, 5, 6, 7, 8, 9, 10, 11)
	want[5] = fileBlock(0, 0, "B", 100, 3)
	want[3], want[4], want[6], want[7] = dataBlock(5, 1, 4, data[:26]), dataBlock(5, 2, 6, data[26:52]), dataBlock(5, 3, 7, data[52:78]), dataBlock(5, 4, 0, data[78:])
	diskIs(t, "longer, in gaps", got, c, want)
	got, c = impl.DeleteTree(got, "A")
	want[0] = rootOf(16, map[int]int{1: 8, 2: 5}, 0, 3, 4, 5, 6, 7, 8, 9, 10, 11)
	want[1], want[2] = zeros(32), zeros(32)
	want[8] = fileBlock(0, 0, "I", 60, 9)
	diskIs(t, "deleted behind another one", got, c, want)
	got, c = impl.WriteTree(got, "Q", "new")
	want[0] = rootOf(16, map[int]int{1: 1, 2: 5}, 0, 1, 2, 3, 4, 5, 6, 7, 8, 9, 10, 11)
	want[1], want[2] = fileBlock(8, 0, "Q", 3, 2), dataBlock(1, 1, 0, "new")
	diskIs(t, "the lowest blocks, and the first place", got, c, want)
	got, c = impl.MakeDirectory(got, "Y")
	want[0] = rootOf(16, map[int]int{1: 12, 2: 5}, 0, 1, 2, 3, 4, 5, 6, 7, 8, 9, 10, 11, 12)
	want[12] = directoryBlock(1, 0, "Y", nil)
	diskIs(t, "a directory with the same hash", got, c, want)
}

// What is in a free block does not matter, and stays there until it is used.
func TestP19BytesOfFreeBlocks(t *testing.T) {
	disk := treeWith(t, 8, "A 1")
	for block := 3; block < 8; block++ {
		disk[block] = strings.Repeat(chars('0'+block), 32)
	}
	troublesAre(t, "free", disk)
	got, c := impl.WriteTree(disk, "B", "beta")
	want := append([]string{rootOf(8, map[int]int{1: 1, 2: 3}, 0, 1, 2, 3, 4), disk[1], disk[2], fileBlock(0, 0, "B", 4, 4), dataBlock(3, 1, 0, "beta")}, disk[5:]...)
	diskIs(t, "a file", got, c, want)
	got, c = impl.MakeDirectory(disk, "B")
	want = append([]string{rootOf(8, map[int]int{1: 1, 2: 3}, 0, 1, 2, 3), disk[1], disk[2], directoryBlock(0, 0, "B", nil)}, disk[4:]...)
	diskIs(t, "a directory", got, c, want)
	got, c = impl.DeleteTree(disk, "A")
	want = append([]string{rootOf(8, nil, 0), zeros(32), zeros(32)}, disk[3:]...)
	diskIs(t, "deleted", got, c, want)
	mended, c := impl.MendTree(disk)
	diskIs(t, "mended", mended, c, treeWith(t, 8, "A 1"))
}

// Names with the same hash, in the root and in a directory: each of them is deleted, and the others stay.
func TestP19EntriesOfTheSameHash(t *testing.T) {
	names := []string{"A", "I", "Q", "Y", "A0", "B7"}
	for _, below := range []string{"", "D/", "D/E/", "D/E/F/"} {
		disk := newTree(t, 64)
		for at := range below {
			if below[at] == '/' {
				disk = entered(t, disk, below[:at+1])
			}
		}
		for _, name := range names {
			disk = entered(t, disk, below+name+" 30")
		}
		for i, name := range names {
			is(t, "hash", impl.HashOf(name) == 1 || name == "B7", true)
			got, c := impl.DeleteTree(disk, below+name)
			want, _ := plainGone(disk, below+name)
			diskIs(t, "deleted "+name, got, c, want)
			troublesAre(t, "deleted", got)
			listsAs(t, "deleted", got, strings.TrimSuffix(below, "/"), slices.Sorted(slices.Values(slices.Delete(slices.Clone(names), i, i+1)))...)
			for _, other := range names {
				if other != name {
					keeps(t, "others", got, below+other, someData(below+other, 30))
				}
			}
			_, c = impl.ReadTree(got, below+name)
			code(t, "deleted", c, impl.ErrNotFound)
			got = entered(t, got, below+name+"/")
			_, c = impl.ReadTree(got, below+name)
			code(t, "a directory instead", c, impl.ErrState)
		}
	}
}

func TestP19DeletingDirectories(t *testing.T) {
	for hash := range 8 {
		name := chars('A' + (hash+7)%8)
		is(t, "hash", impl.HashOf(name), int64(hash))
		for _, entry := range []string{name + " 0", name + "/"} {
			full := treeWith(t, 8, "D/", "D/"+entry)
			list, c := impl.DeleteTree(full, "D")
			noDisk(t, "not empty: "+entry, list, c, impl.ErrState)
			empty, c := impl.DeleteTree(full, "D/"+name)
			diskIs(t, "empty again", empty, c, treeWith(t, 8, "D/"))
			gone, c := impl.DeleteTree(empty, "D")
			diskIs(t, "deleted", gone, c, newTree(t, 8))
		}
	}
	many := treeWith(t, 16, "D/", "L/", "T/", "L/A 1")
	for _, name := range []string{"D", "T"} {
		gone, c := impl.DeleteTree(many, name)
		want, _ := plainGone(many, name)
		diskIs(t, "between others", gone, c, want)
		keeps(t, "between others", gone, "L/A", someData("L/A", 1))
	}
}

// deepTree returns a tree with a directory in a directory, and so on, and a file in each of them.
func deepTree(t *testing.T, depth int) []string {
	x := plainTreeOf(newTree(t, 128))
	directory := 0
	for range depth {
		x.create(directory, "F", true)
		directory = x.create(directory, "A", false)
	}
	x.store(x.create(directory, "LAST", true), "the last data")
	return x.disk()
}

// A tree may be deeper than any path.
func TestP19DeepTrees(t *testing.T) {
	for _, depth := range []int{3, 4, 5, 20, 62} {
		disk := deepTree(t, depth)
		troublesAre(t, "deep", disk)
		want := []string{}
		for i := range depth {
			want = append(want, strings.Repeat("A/", i)+"F")
		}
		want = append(want, strings.Repeat("A/", depth)+"LAST")
		slices.Sort(want)
		pathsAre(t, "deep", disk, want...)
		freeAre(t, "deep", disk, int64(128-1-2*depth-2))
		_, c := impl.ReadTree(disk, strings.Repeat("A/", depth)+"LAST")
		code(t, "deep", c, map[bool]int64{true: impl.OK, false: impl.ErrInvalid}[depth < 4])
		names := []string{"A/", "F"}
		if depth == 4 {
			names = []string{"LAST"}
		} else if depth < 4 {
			continue
		}
		listsAs(t, "deep", disk, "A/A/A/A", names...)
		list, c := impl.DeleteTree(disk, "A/A/A/A")
		noDisk(t, "not empty", list, c, impl.ErrState)
		mended, c := impl.MendTree(disk)
		wantDisk, _ := plainMended(disk)
		diskIs(t, "mended", mended, c, wantDisk)
		pathsAre(t, "mended", mended, want...)
		got := entered(t, disk, "A/A/F 20")
		pathsAre(t, "written", got, want...)
	}
	// Directories fill the tree.
	x := plainTreeOf(newTree(t, 128))
	for directory, block := 0, 1; block > 0; directory = block {
		block = x.create(directory, "A", false)
		if block == 0 {
			break
		}
	}
	troublesAre(t, "a full tree", x.disk())
	freeAre(t, "a full tree", x.disk(), 0)
	mended, c := impl.MendTree(x.disk())
	diskIs(t, "a full tree, mended", mended, c, x.disk())
	x.set(127, 12, 1)
	troublesAre(t, "a full tree with a loop", x.disk(), troubles([2]int{3, 1})...)
}

// The most files with the same hash.
func TestP19LongLists(t *testing.T) {
	disk, want := newTree(t, 128), []string{}
	for i := range 127 {
		name := chars('A'+i%16, 'A'+i/16)
		name += chars('A' + (8-hashOf(name+"A"))%8)
		is(t, "hash", impl.HashOf(name), int64(0))
		disk = entered(t, disk, name+" 0")
		want = append(want, name)
	}
	slices.Sort(want)
	pathsAre(t, "a list", disk, want...)
	listsAs(t, "a list", disk, "", want...)
	freeAre(t, "a list", disk, 0)
	for _, name := range want {
		got, c := impl.DeleteTree(disk, name)
		code(t, "delete", c, impl.OK)
		freeAre(t, "one less", got, 1)
	}
}

// Mended trees have their blocks in the order of the walk, and their entries before those that were created earlier.
func TestP19MendingByHand(t *testing.T) {
	mended, c := impl.MendTree(sampleTree())
	want := slices.Repeat([]string{zeros(32)}, 16)
	want[0] = rootOf(16, map[int]int{1: 3, 4: 4}, 0, 1, 2, 3, 4, 5, 6, 7, 8)
	want[1], want[2] = fileBlock(0, 0, "A", 5, 2), dataBlock(1, 1, 0, "ALPHA")
	want[3] = fileBlock(1, 0, "I", 0, 0)
	want[4] = directoryBlock(0, 0, "D", map[int]int{1: 5, 5: 8})
	want[5] = fileBlock(0, 4, "A", 30, 6)
	want[6], want[7] = dataBlock(5, 1, 7, "abcdefghijklmnopqrstuvwxyz"), dataBlock(5, 2, 0, "0123")
	want[8] = directoryBlock(0, 4, "E", nil)
	diskIs(t, "the sample", mended, c, want)
}

// A directory that is not created takes everything below it along, and nothing else.
func TestP19MendingDirectories(t *testing.T) {
	disk := treeWith(t, 32, "D/", "D/A 30", "D/E/", "D/E/B 3", "L/", "L/A 5", "A 7")
	block, _, _ := plainTreeOf(disk).find(0, "D")
	for what, change := range map[string]func(x plainTree){
		"another name, of another hash": func(x plainTree) { x.set(block, 4, 'X') },
		"another element":               func(x plainTree) { x.set(8, 2, 0); x.set(0, 4, block) },
		"a name that was found":         func(x plainTree) { x.set(block, 4, 'L') },
	} {
		x := plainTreeOf(disk)
		change(x)
		got := impl.CheckTree(x.disk())
		is(t, what, got, troubles([2]int{4, block}))
		mended, c := impl.MendTree(x.disk())
		code(t, what, c, impl.OK)
		troublesAre(t, what, mended)
		pathsAre(t, what, mended, "A", "L/A")
		listsAs(t, what, mended, "", "A", "L/")
		keeps(t, what, mended, "L/A", someData("L/A", 5))
		freeAre(t, what, mended, 32-1-2-1-2)
	}
	// The data of a file below it are damaged, too, and another file has the wrong size.
	x := plainTreeOf(disk)
	x.set(block, 4, 'X')
	inner, _, _ := x.find(block, "A")
	x.tear(int(x[inner][14]))
	outer, _, _ := x.find(0, "A")
	x.set(outer, 13, 8)
	mended, c := impl.MendTree(x.disk())
	want, _ := plainMended(x.disk())
	diskIs(t, "several", mended, c, want)
	pathsAre(t, "several", mended, "L/A")
}

// Of two entries of a name, only the first one in the order of the walk is created, and of none that is below a wrong element.
func TestP19MendingNames(t *testing.T) {
	x := plainTreeOf(treeWith(t, 16, "A 3", "I 4", "Q 5"))
	second, _, _ := x.find(0, "I")
	third, _, _ := x.find(0, "Q")
	x.set(second, 4, 'Q')
	mended, c := impl.MendTree(x.disk())
	code(t, "mended", c, impl.OK)
	troublesAre(t, "twice", x.disk(), troubles([2]int{4, second})...)
	pathsAre(t, "twice", mended, "A", "Q")
	keeps(t, "twice", mended, "Q", someData("Q", 5))
	// The first one is damaged, but its name was found.
	x.tear(int(x[third][14]))
	mended, c = impl.MendTree(x.disk())
	code(t, "mended", c, impl.OK)
	pathsAre(t, "the first one is damaged", mended, "A")
}

// A file is the same after each step of mending, and mending a mended tree again keeps its files.
func TestP19MendingAgain(t *testing.T) {
	from := source(331)
	for i := range 100 {
		disk := from.anyTree(t, int64(i%5))
		mended, c := impl.MendTree(disk)
		if c != impl.OK {
			continue
		}
		troublesAre(t, "mended", mended)
		again, c := impl.MendTree(mended)
		code(t, "again", c, impl.OK)
		paths, _ := impl.TreePaths(mended)
		pathsAre(t, "again", again, paths...)
	}
}

// anyPath returns a path of some names, of which few have different letters.
func (s *source) anyPath() string {
	names := []string{}
	for range 1 + s.below(2)*s.below(4) {
		names = append(names, []string{"A", "B", "I", "Q", "LONGNAME", "D", "E"}[s.below(7)])
	}
	return strings.Join(names, "/")
}

// anyTree returns a tree with directories and files, and any bytes in free blocks, which may be damaged.
func (s *source) anyTree(t *testing.T, damages int64) []string {
	t.Helper()
	disk := newTree(t, []int64{4, 8, 16, 33, 64, 128}[s.below(6)])
	for range len(disk) {
		path := s.anyPath()
		after, c := impl.MakeDirectory(disk, path)
		switch s.below(7) {
		case 0, 1, 2, 3:
			after, c = impl.WriteTree(disk, path, s.bytes(int(s.below(80))))
		case 4:
			after, c = impl.DeleteTree(disk, path)
		}
		if c == impl.OK {
			disk = after
		}
	}
	x := plainTreeOf(disk)
	for block := range x {
		if !x.isMarked(block) && s.below(2) == 0 {
			x.fill(block, s.bytes(32))
		}
	}
	for range damages {
		s.damage(x)
	}
	return x.disk()
}

// damage changes a byte of a block, mostly of one that is used, and mostly so that it is sealed.
func (s *source) damage(x plainTree) {
	block := int(s.below(int64(len(x))))
	if !x.isMarked(block) {
		block = int(s.below(int64(len(x))))
	}
	number := int(s.below(int64(len(x))))
	switch s.below(8) {
	case 0:
		x.tear(block)
	case 1:
		x.set(block, 2, number)
	case 2:
		x.set(block, []int{14, 4, 12, 13}[s.below(4)], number)
	case 3:
		x.set(0, 4+int(s.below(8)), number)
	case 4:
		if block > 0 {
			x.set(block, int(s.below(32)), int(s.below(256)))
		}
	case 5:
		x.mark(s.below(2) == 0, block)
	case 6:
		x.set(block, 4, []int{'A', 'B', 'I', 'Q', 'Y'}[s.below(5)])
	default:
		other := int(s.below(int64(len(x))))
		if block > 0 && other > 0 {
			x[block], x[other] = x[other], x[block]
		}
	}
}

func TestP19AnyTrees(t *testing.T) {
	from := source(332)
	kinds := map[int64]int{}
	for i := range 900 {
		disk := from.anyTree(t, int64(i%6))
		before := slices.Clone(disk)
		for range 3 {
			treeIsAs(t, disk, from.anyPath(), from.bytes(int(from.below(150))))
		}
		is(t, "argument", disk, before)
		for _, p := range impl.CheckTree(disk) {
			kinds[p.Kind]++
		}
	}
	is(t, "all kinds of problems", slices.Sorted(maps.Keys(kinds)), []int64{1, 2, 3, 4, 5, 6, 7})
}

// Blocks of which all bytes are random, behind a root that is as it should be.
func TestP19RandomBlocks(t *testing.T) {
	from := source(333)
	for range 300 {
		x := plainTreeOf(newTree(t, 4+from.below(125)))
		for block := range x[1:] {
			x.fill(block+1, sealed(chars(int(from.below(5)))+from.bytes(31)))
		}
		for hash := range 8 {
			x.set(0, 4+hash, int(from.below(int64(len(x)+2))))
		}
		treeIsAs(t, x.disk(), "A", "x")
	}
}

// Files and directories are made, written over and deleted, and each time all of them are there, and there are no problems.
func TestP19ManyFiles(t *testing.T) {
	from := source(334)
	for range 40 {
		disk := newTree(t, 4+from.below(125))
		files, directories := map[string]string{}, map[string]bool{}
		for range 60 {
			path, data := from.anyPath(), from.bytes(int(from.below(90)))
			switch from.below(4) {
			case 0:
				if after, c := impl.MakeDirectory(disk, path); c == impl.OK {
					disk, directories[path] = after, true
				}
			case 1:
				if after, c := impl.DeleteTree(disk, path); c == impl.OK {
					disk = after
					delete(files, path)
					delete(directories, path)
				}
			default:
				if after, c := impl.WriteTree(disk, path, data); c == impl.OK {
					disk, files[path] = after, data
				}
			}
			allTreesAre(t, disk, files, directories)
		}
		mended, c := impl.MendTree(disk)
		code(t, "mended", c, impl.OK)
		allTreesAre(t, mended, files, directories)
	}
}

// allTreesAre requires that a tree has exactly some files and directories, and no problems.
func allTreesAre(t *testing.T, disk []string, files map[string]string, directories map[string]bool) {
	t.Helper()
	troublesAre(t, "no problems", disk)
	pathsAre(t, "paths", disk, slices.Sorted(maps.Keys(files))...)
	used := 1 + len(directories) + len(files)
	for path, data := range files {
		keeps(t, "file", disk, path, data)
		used += up(len(data), 26)
	}
	freeAre(t, "as many blocks as needed", disk, int64(len(disk)-used))
	for path := range directories {
		want := []string{}
		for other := range files {
			if name, ok := strings.CutPrefix(other, path+"/"); ok && !strings.Contains(name, "/") {
				want = append(want, name)
			}
		}
		for other := range directories {
			if name, ok := strings.CutPrefix(other, path+"/"); ok && !strings.Contains(name, "/") {
				want = append(want, name+"/")
			}
		}
		slices.Sort(want)
		listsAs(t, "directory", disk, path, want...)
	}
}
