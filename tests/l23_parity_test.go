package tests

import (
	"math"
	"slices"
	"strconv"
	"strings"
	"testing"

	"loop.example/g00899/impl"
)

// noElements are numbers that are no elements of the field.
func noElements() []int64 {
	return []int64{-1, 256, -2, -255, -256, 257, 285, 511, 512, 1 << 32, 1<<32 + 1, -1 << 32, 1 << 62, math.MinInt64, math.MinInt64 + 1, math.MaxInt64}
}

// plainProduct multiplies two polynomials, and divides the product by that of the field.
func plainProduct(a, b int64) int64 {
	product := int64(0)
	for i := range 8 {
		for j := range 8 {
			product ^= a >> i & 1 * (b >> j & 1) << (i + j)
		}
	}
	for i := 14; i >= 8; i-- {
		if product>>i&1 == 1 {
			product ^= 285 << (i - 8)
		}
	}
	return product
}

// plainPower multiplies so many times by 2, and n is neither negative nor great.
func plainPower(n int64) int64 {
	power := int64(1)
	for range n {
		power = plainProduct(2, power)
	}
	return power
}

// plainParity follows the words of the document for MakeParity, with a group.
func plainParity(blocks []string) (string, string) {
	p, q := make([]byte, len(blocks[0])), make([]byte, len(blocks[0]))
	power := int64(1)
	for _, block := range blocks {
		for at := range len(block) {
			p[at] ^= block[at]
			q[at] ^= byte(plainProduct(power, int64(block[at])))
		}
		power = plainProduct(2, power)
	}
	return string(p), string(q)
}

// group returns any group with so many blocks of one size.
func (s *source) group(count, size int) []string {
	list := make([]string, count)
	for i := range list {
		list[i] = s.bytes(size)
	}
	return list
}

// noParityGroups are lists of blocks that are no groups.
func noParityGroups() [][]string {
	a, long := zeros(64), zeros(65)
	list := [][]string{nil, {}, {""}, {"", ""}, {long}, {long, long}, {zeros(4096)}, {"a", "ab"}, {"ab", "a"}, {"", "a"}, {"a", ""}, {"a", "a", "ab"}, {a, a, long}, {long, a}, {a, a, ""}, slices.Repeat([]string{""}, 128)}
	for _, count := range []int{129, 130, 255, 256, 257, 384, 100000} {
		list = append(list, slices.Repeat([]string{"a"}, count), make([]string, count))
	}
	last := slices.Repeat([]string{a}, 128)
	last[127] = a[:63]
	return append(list, last)
}

// otherLengths are the string in all other lengths that differ from its own by one, and some more, among them those of blocks that no group has.
func otherLengths(s string) []string {
	return []string{"", s[:len(s)-1], s + "\x00", s + s, zeros(65), zeros(len(s) + 256), zeros(4096)}
}

// xored returns the string with another byte at a place.
func xored(s string, at int, by byte) string {
	other := []byte(s)
	other[at] ^= by
	return string(other)
}

// withBlock returns the blocks with another one at an index.
func withBlock(blocks []string, i int, block string) []string {
	other := slices.Clone(blocks)
	other[i] = block
	return other
}

func parityIs(t *testing.T, what, p, q string, gotCode int64, wantP, wantQ string) {
	t.Helper()
	is(t, what, []any{p, q, impl.CodeName(gotCode)}, []any{wantP, wantQ, "ok"})
}

func noParity(t *testing.T, what, p, q string, gotCode, want int64) {
	t.Helper()
	is(t, what, []any{p, q, impl.CodeName(gotCode)}, []any{"", "", impl.CodeName(want)})
}

// parityFits requires what CheckParity reports, and OK.
func parityFits(t *testing.T, what string, blocks []string, p, q string, want bool) {
	t.Helper()
	got, c := impl.CheckParity(blocks, p, q)
	is(t, what, []any{got, impl.CodeName(c)}, []any{want, "ok"})
}

func noCheck(t *testing.T, what string, blocks []string, p, q string) {
	t.Helper()
	got, c := impl.CheckParity(blocks, p, q)
	is(t, what, []any{got, impl.CodeName(c)}, []any{false, "invalid"})
	i, c := impl.FindDamaged(blocks, p, q)
	is(t, what+": damaged", []any{i, impl.CodeName(c)}, []any{int64(0), "invalid"})
}

func TestP24Constants(t *testing.T) {
	is(t, "limits", []int64{impl.MaxParityBlocks, impl.MaxParitySize}, []int64{128, 64})
}

func TestP24Examples(t *testing.T) {
	is(t, "field", []int64{impl.GfMul(128, 2), impl.GfPow(8), impl.GfInverse(2)}, []int64{29, 29, 142})
	blocks := []string{"abc", "def", "ghi"}
	p, q, c := impl.MakeParity(blocks)
	parityIs(t, "parity", p, q, c, "bol", "\x28\x15\x16")
	for _, lost := range [][]int64{{0, 1}, {0, 2}, {1, 2}} {
		given := slices.Clone(blocks)
		given[lost[0]], given[lost[1]] = "?", ""
		whole, c := impl.RestoreTwo(given, lost, p, q)
		diskIs(t, "restored", whole, c, blocks)
	}
}

func TestP24Products(t *testing.T) {
	for _, row := range [][3]int64{
		{0, 0, 0}, {0, 1, 0}, {0, 2, 0}, {0, 255, 0}, {1, 1, 1}, {1, 2, 2}, {1, 255, 255}, {2, 2, 4}, {2, 255, 227}, {255, 255, 226},
		// These polynomials have a degree of 8 and 14, so that the first one is reduced once, and the others more than once.
		{128, 2, 29}, {16, 16, 29}, {128, 4, 58}, {128, 128, 19}, {142, 2, 1}, {128, 32, 205}, {200, 200, 158},
	} {
		is(t, "product", []int64{impl.GfMul(row[0], row[1]), impl.GfMul(row[1], row[0])}, []int64{row[2], row[2]})
	}
	for a := range int64(256) {
		for b := range int64(256) {
			if got := impl.GfMul(a, b); got != plainProduct(a, b) {
				t.Fatalf("%d times %d: got %d, want %d", a, b, got, plainProduct(a, b))
			}
		}
	}
}

func TestP24ProductsOfNoElements(t *testing.T) {
	for _, n := range noElements() {
		for a := range int64(256) {
			is(t, "product with "+strconv.FormatInt(n, 10), []int64{impl.GfMul(a, n), impl.GfMul(n, a)}, []int64{0, 0})
		}
		for _, m := range noElements() {
			is(t, "product", impl.GfMul(n, m), int64(0))
		}
		is(t, "inverse of "+strconv.FormatInt(n, 10), impl.GfInverse(n), int64(0))
	}
}

func TestP24Inverses(t *testing.T) {
	is(t, "inverses", []int64{impl.GfInverse(0), impl.GfInverse(1), impl.GfInverse(2), impl.GfInverse(142), impl.GfInverse(255)}, []int64{0, 1, 142, 2, 253})
	seen := map[int64]bool{}
	for a := int64(1); a < 256; a++ {
		b := impl.GfInverse(a)
		is(t, "product of inverses", plainProduct(a, b&255), int64(1))
		is(t, "is an element", b > 0 && b < 256, true)
		is(t, "inverse of the inverse", impl.GfInverse(b), a)
		seen[b] = true
	}
	is(t, "different inverses", len(seen), 255)
}

func TestP24Powers(t *testing.T) {
	for _, row := range [][2]int64{
		{0, 1}, {1, 2}, {2, 4}, {7, 128}, {8, 29}, {9, 58}, {127, 204}, {128, 133}, {253, 71}, {254, 142}, {255, 1}, {256, 2}, {257, 4}, {510, 1}, {511, 2},
		{-1, 142}, {-2, 71}, {-254, 2}, {-255, 1}, {-256, 142}, {-247, 29}, {-510, 1}, {-511, 142},
		// 2 to the power of 63 leaves 128 if it is divided by 255.
		{math.MaxInt64, 204}, {math.MaxInt64 - 127, 1}, {math.MinInt64, 204}, {math.MinInt64 + 128, 1}, {math.MinInt64 + 1, 133},
	} {
		is(t, "power of "+strconv.FormatInt(row[0], 10), impl.GfPow(row[0]), row[1])
	}
	seen := map[int64]bool{}
	for n := range int64(255) {
		power := plainPower(n)
		seen[power] = true
		is(t, "power", []int64{impl.GfPow(n), impl.GfPow(n - 255), impl.GfPow(n + 255), impl.GfPow(n - 255*1000), impl.GfPow(n + 255<<40)}, slices.Repeat([]int64{power}, 5))
	}
	is(t, "different powers", len(seen), 255)
}

func TestP24ParityOfGroups(t *testing.T) {
	from := source(700)
	for _, count := range []int{1, 2, 3, 4, 9, 127, 128} {
		for _, size := range []int{1, 2, 3, 63, 64} {
			blocks := from.group(count, size)
			wantP, wantQ := plainParity(blocks)
			p, q, c := impl.MakeParity(blocks)
			parityIs(t, "parity", p, q, c, wantP, wantQ)
			parityFits(t, "right", blocks, p, q, true)
		}
	}
	for _, row := range [][4]string{{"A", "", "A", "A"}, {"\x80", "\x80", "\x00", "\x9d"}, {"\x00", "\x80", "\x80", "\x1d"}, {"\x00\xff", "\x00\xff", "\x00\x00", "\x00\x1c"}} {
		blocks := []string{row[0], row[1]}
		if row[1] == "" {
			blocks = blocks[:1]
		}
		p, q, c := impl.MakeParity(blocks)
		parityIs(t, "few blocks", p, q, c, row[2], row[3])
	}
	p, q, c := impl.MakeParity(slices.Repeat([]string{zeros(64)}, 128))
	parityIs(t, "zero bytes", p, q, c, zeros(64), zeros(64))
	last := withBlock(slices.Repeat([]string{"\x00"}, 128), 127, "\x01")
	p, q, c = impl.MakeParity(last)
	parityIs(t, "last block", p, q, c, "\x01", "\xcc")
}

func TestP24NoGroups(t *testing.T) {
	for _, blocks := range noParityGroups() {
		what := "no group " + brief(blocks)[:min(len(brief(blocks)), 40)]
		p, q, c := impl.MakeParity(blocks)
		noParity(t, what, p, q, c, impl.ErrInvalid)
		for _, s := range []string{"", "a", "ab", zeros(64), zeros(65)} {
			noCheck(t, what, blocks, s, s)
			noCheck(t, what, blocks, "", s)
			noCheck(t, what, blocks, s, "a")
		}
	}
}

func TestP24WrongParity(t *testing.T) {
	from := source(701)
	for _, count := range []int{1, 2, 5, 128} {
		for _, size := range []int{1, 3, 64} {
			blocks := from.group(count, size)
			p, q := plainParity(blocks)
			for _, at := range []int{0, size / 2, size - 1} {
				for _, by := range []byte{1, 128, 255} {
					parityFits(t, "only P", blocks, xored(p, at, by), q, false)
					parityFits(t, "only Q", blocks, p, xored(q, at, by), false)
					parityFits(t, "both", blocks, xored(p, at, by), xored(q, at, by), false)
					parityFits(t, "block", withBlock(blocks, count-1, xored(blocks[count-1], at, by)), p, q, false)
				}
			}
			parityFits(t, "exchanged", blocks, q, p, p == q)
		}
	}
	parityFits(t, "blocks in another order", []string{"b", "a"}, "\x03", "\xa0", true)
	parityFits(t, "blocks in another order", []string{"a", "b"}, "\x03", "\xa0", false)
}

func TestP24ParityOfAnotherLength(t *testing.T) {
	from := source(702)
	for _, size := range []int{1, 2, 63, 64} {
		blocks := from.group(3, size)
		p, q := plainParity(blocks)
		for i, other := range otherLengths(p) {
			if len(other) == size {
				continue
			}
			noCheck(t, "P "+strconv.Itoa(i), blocks, other, q)
			noCheck(t, "Q "+strconv.Itoa(i), blocks, p, other)
			noCheck(t, "both "+strconv.Itoa(i), blocks, other, other)
		}
	}
}

func TestP24UpdatedParity(t *testing.T) {
	from := source(703)
	for _, count := range []int{1, 2, 3, 128} {
		for _, size := range []int{1, 2, 64} {
			blocks := from.group(count, size)
			p, q := plainParity(blocks)
			for i := range count {
				after := from.bytes(size)
				for _, block := range []string{after, blocks[i], zeros(size), xored(blocks[i], size-1, 255)} {
					wantP, wantQ, _ := impl.MakeParity(withBlock(blocks, i, block))
					gotP, gotQ, c := impl.UpdateParity(p, q, int64(i), blocks[i], block)
					parityIs(t, "updated", gotP, gotQ, c, wantP, wantQ)
				}
				same, also, c := impl.UpdateParity(p, q, int64(i), after, after)
				parityIs(t, "the same block", same, also, c, p, q)
			}
		}
	}
	p, q, c := impl.UpdateParity("a", "b", 127, "\x00", "\x01")
	parityIs(t, "last index", p, q, c, "\x60", "\xae")
	p, q, c = impl.UpdateParity("a", "b", 0, "\x01", "\x00")
	parityIs(t, "first index", p, q, c, "\x60", "\x63")
}

func TestP24NoUpdate(t *testing.T) {
	indices := append(noBlocks(), 255, 256, -255, 0, 1, 127)
	for _, size := range []int{1, 2, 64} {
		s := zeros(size)
		for _, i := range indices {
			p, q, c := impl.UpdateParity(s, s, i, s, s)
			if i >= 0 && i < 128 {
				parityIs(t, "index", p, q, c, s, s)
			} else {
				noParity(t, "index", p, q, c, impl.ErrRange)
			}
			for _, other := range otherLengths(s) {
				if len(other) == size {
					continue
				}
				for place := range 4 {
					list := withBlock(slices.Repeat([]string{s}, 4), place, other)
					p, q, c := impl.UpdateParity(list[0], list[1], i, list[2], list[3])
					noParity(t, "length", p, q, c, impl.ErrInvalid)
				}
				p, q, c := impl.UpdateParity(s, s, i, other, other)
				noParity(t, "both blocks", p, q, c, impl.ErrInvalid)
				p, q, c = impl.UpdateParity(other, other, i, s, s)
				noParity(t, "both parity blocks", p, q, c, impl.ErrInvalid)
			}
		}
	}
	for _, i := range indices {
		for _, s := range []string{"", zeros(65), zeros(66), zeros(4096)} {
			p, q, c := impl.UpdateParity(s, s, i, s, s)
			noParity(t, "all of them", p, q, c, impl.ErrInvalid)
		}
	}
}

// plainRestoreCode follows the table of the document for RestoreTwo.
func plainRestoreCode(blocks []string, lost []int64, p, q string) int64 {
	isLost := map[int]bool{}
	for i, n := range lost {
		if n < 0 || n > int64(len(blocks))-1 || i > 0 && lost[i-1] >= n {
			return impl.ErrRange
		}
		isLost[int(n)] = true
	}
	lengths, count := map[int]bool{}, len(lost)
	for i, block := range blocks {
		if !isLost[i] {
			lengths[len(block)] = true
		}
	}
	for _, s := range []string{p, q} {
		if s == "" {
			count++
		} else {
			lengths[len(s)] = true
		}
	}
	switch {
	case len(blocks) == 0 || len(blocks) > 128 || len(lengths) != 1:
		return impl.ErrInvalid
	case lengths[0] || slices.Max(lengthsOf(blocks, isLost, p, q)) > 64:
		return impl.ErrInvalid
	case count > 2:
		return impl.ErrDamaged
	}
	return impl.OK
}

// lengthsOf returns the lengths of all that is not lost.
func lengthsOf(blocks []string, isLost map[int]bool, p, q string) []int {
	list := []int{len(p), len(q)}
	for i, block := range blocks {
		if !isLost[i] {
			list = append(list, len(block))
		}
	}
	return list
}

// plainRestored looks for all bytes that P, or Q if P is lost, allows, and if two blocks are lost, for those that Q allows, too. plainRestoreCode is OK.
func plainRestored(blocks []string, lost []int64, p, q string) []string {
	whole := slices.Clone(blocks)
	size := slices.Max([]int{len(p), len(q)})
	for _, i := range lost {
		whole[i] = zeros(size)
	}
	if len(lost) == 0 {
		return whole
	}
	sumP, sumQ := plainParity(whole)
	first, second := plainPower(lost[0]), plainPower(lost[len(lost)-1])
	for at := range size {
		for value := range 256 {
			a, b := int64(value), int64(0)
			if len(lost) == 2 {
				b = int64(sumP[at]^p[at]) ^ a
			}
			fitsP := p == "" || int64(sumP[at]^p[at]) == a^b
			fitsQ := len(lost) == 1 && p != "" || int64(sumQ[at]^q[at]) == plainProduct(first, a)^plainProduct(second, b)
			if fitsP && fitsQ {
				whole[lost[0]] = xored(whole[lost[0]], at, byte(a))
				whole[lost[len(lost)-1]] = xored(whole[lost[len(lost)-1]], at, byte(b))
			}
		}
	}
	return whole
}

// givesBack requires that the lost blocks of a group are restored, with any strings in their places.
func givesBack(t *testing.T, blocks []string, lost []int64, p, q string) {
	t.Helper()
	for _, odd := range []string{"", "?", zeros(len(blocks[0])), zeros(65), zeros(5000)} {
		given := slices.Clone(blocks)
		for _, i := range lost {
			given[i] = odd
		}
		whole, c := impl.RestoreTwo(given, lost, p, q)
		diskIs(t, "lost "+listText(lost), whole, c, blocks)
	}
}

func listText(list []int64) string {
	text := ""
	for _, n := range list {
		text += " " + strconv.FormatInt(n, 10)
	}
	return text
}

func noRestored(t *testing.T, what string, blocks []string, lost []int64, p, q string, want int64) {
	t.Helper()
	whole, c := impl.RestoreTwo(blocks, lost, p, q)
	noDisk(t, what, whole, c, want)
}

func TestP24OneRestored(t *testing.T) {
	from := source(704)
	for _, count := range []int{1, 2, 3, 127, 128} {
		for _, size := range []int{1, 2, 63, 64} {
			blocks := from.group(count, size)
			p, _ := plainParity(blocks)
			for lost := range count {
				for _, odd := range []string{"", "?", blocks[lost], zeros(size), zeros(size + 1), zeros(65), zeros(5000)} {
					got, c := impl.RestoreOne(withBlock(blocks, lost, odd), int64(lost), p)
					textIs(t, "restored "+strconv.Itoa(lost), got, c, blocks[lost], impl.OK)
				}
			}
		}
	}
	got, c := impl.RestoreOne([]string{"any"}, 0, "P")
	textIs(t, "a single block", got, c, "P", impl.OK)
}

func TestP24NoneRestored(t *testing.T) {
	from := source(705)
	none := func(what string, blocks []string, lost int64, p string, want int64) {
		t.Helper()
		got, c := impl.RestoreOne(blocks, lost, p)
		textIs(t, what, got, c, "", want)
	}
	for _, count := range []int{1, 2, 3, 128} {
		for _, size := range []int{1, 2, 64} {
			blocks := from.group(count, size)
			p, _ := plainParity(blocks)
			for _, lost := range append(noBlocks(), int64(count), int64(count+1), -int64(count)) {
				none("no index", blocks, lost, p, impl.ErrRange)
				none("no index, no P", blocks, lost, "", impl.ErrRange)
				none("no index, a long P", blocks, lost, p+"\x00", impl.ErrRange)
				none("no index, other lengths", withBlock(blocks, 0, zeros(65)), lost, p, impl.ErrRange)
			}
			for lost := range count {
				none("no P", blocks, int64(lost), "", impl.ErrInvalid)
				for _, other := range otherLengths(p) {
					if len(other) != size && (count > 1 || other == "" || len(other) > 64) {
						none("another P", blocks, int64(lost), other, impl.ErrInvalid)
					}
					if i := (lost + 1) % count; len(other) != size && count > 1 {
						none("another block", withBlock(blocks, i, other), int64(lost), p, impl.ErrInvalid)
					}
				}
			}
		}
	}
}

func TestP24NoneRestoredOfNoGroups(t *testing.T) {
	none := func(what string, blocks []string, lost int64, p string, want int64) {
		t.Helper()
		got, c := impl.RestoreOne(blocks, lost, p)
		textIs(t, what, got, c, "", want)
	}
	for _, lost := range []int64{-1, 0, 1, math.MaxInt64, math.MinInt64} {
		for _, p := range []string{"", "a", zeros(65)} {
			none("no blocks", nil, lost, p, impl.ErrRange)
			none("no blocks", []string{}, lost, p, impl.ErrRange)
		}
	}
	many := slices.Repeat([]string{"a"}, 129)
	for _, lost := range []int64{0, 1, 127, 128} {
		none("too many", many, lost, "a", impl.ErrInvalid)
		none("too many, no P", many, lost, "", impl.ErrInvalid)
		none("too many empty ones", make([]string, 129), lost, "", impl.ErrInvalid)
	}
	none("behind too many", many, 129, "a", impl.ErrRange)
	long := zeros(65)
	none("long blocks", []string{long, long, long}, 1, long, impl.ErrInvalid)
	none("long P", []string{"a"}, 0, long, impl.ErrInvalid)
	none("empty blocks", []string{"a", "", ""}, 0, "", impl.ErrInvalid)
	none("empty blocks", []string{"a", "", ""}, 0, "a", impl.ErrInvalid)
	none("other lengths", []string{"ab", "a", "ab", "abc"}, 0, "ab", impl.ErrInvalid)
}

func TestP24TwoRestored(t *testing.T) {
	from := source(706)
	for _, count := range []int{1, 2, 3, 17} {
		for _, size := range []int{1, 5, 64} {
			blocks := from.group(count, size)
			p, q := plainParity(blocks)
			givesBack(t, blocks, nil, p, q)
			givesBack(t, blocks, nil, "", q)
			givesBack(t, blocks, nil, p, "")
			givesBack(t, blocks, nil, "", "")
			for i := range int64(count) {
				givesBack(t, blocks, []int64{i}, p, q)
				givesBack(t, blocks, []int64{i}, p, "")
				givesBack(t, blocks, []int64{i}, "", q)
				for j := i + 1; j < int64(count); j++ {
					givesBack(t, blocks, []int64{i, j}, p, q)
				}
			}
		}
	}
}

func TestP24AllPairsOfMostBlocks(t *testing.T) {
	from := source(707)
	blocks := from.group(128, 2)
	p, q := plainParity(blocks)
	for i := range int64(128) {
		for j := i; j < 128; j++ {
			lost := slices.Compact([]int64{i, j})
			given := slices.Clone(blocks)
			given[i], given[j] = "", "lost"
			whole, c := impl.RestoreTwo(given, lost, p, q)
			diskIs(t, "lost"+listText(lost), whole, c, blocks)
		}
		given := withBlock(blocks, int(i), "")
		whole, c := impl.RestoreTwo(given, []int64{i}, "", q)
		diskIs(t, "lost with P"+listText([]int64{i}), whole, c, blocks)
		whole, c = impl.RestoreTwo(given, []int64{i}, p, "")
		diskIs(t, "lost with Q"+listText([]int64{i}), whole, c, blocks)
	}
}

func TestP24ParityBlocksAreNotChecked(t *testing.T) {
	blocks := []string{"abc", "def", "ghi"}
	whole, c := impl.RestoreTwo(blocks, nil, "xyz", "xyz")
	diskIs(t, "nothing is lost", whole, c, blocks)
	p, _ := plainParity(blocks)
	whole, c = impl.RestoreTwo(withBlock(blocks, 1, ""), []int64{1}, p, "xyz")
	diskIs(t, "P comes first", whole, c, blocks)
}

func TestP24NoIndicesOfBlocks(t *testing.T) {
	blocks := []string{"abc", "def", "ghi"}
	p, q := plainParity(blocks)
	lists := [][]int64{{-1}, {3}, {4}, {128}, {math.MinInt64}, {math.MaxInt64}, {0, 0}, {1, 0}, {2, 1}, {2, 2}, {0, 3}, {-1, 0}, {0, -1}, {0, 1, 1}, {0, 1, 2, 2}, {0, 1, 2, 3}, {1, 2, 0}, {2, 1, 0}, {math.MaxInt64, math.MinInt64}, {1, math.MaxInt64}, upTo(1000), make([]int64, 1000)}
	for _, lost := range lists {
		what := "indices" + listText(lost[:min(len(lost), 5)])
		for _, s := range []string{"", "abc", "a", zeros(65)} {
			noRestored(t, what, blocks, lost, p, s, impl.ErrRange)
			noRestored(t, what, blocks, lost, s, q, impl.ErrRange)
			noRestored(t, what, blocks, lost, s, s, impl.ErrRange)
			noRestored(t, what+", other lengths", []string{"abc", "", "ab"}, lost, s, s, impl.ErrRange)
			noRestored(t, what+", long blocks", slices.Repeat([]string{zeros(65)}, 3), lost, s, s, impl.ErrRange)
			noRestored(t, what+", no blocks", nil, lost, s, s, impl.ErrRange)
		}
	}
	noRestored(t, "no blocks", nil, nil, "a", "a", impl.ErrInvalid)
	noRestored(t, "nothing at all", []string{}, nil, "", "", impl.ErrInvalid)
	noRestored(t, "index of no blocks", nil, []int64{0}, "a", "a", impl.ErrRange)
}

func TestP24NothingToRestoreFrom(t *testing.T) {
	for _, odd := range []string{"", "a", zeros(64), zeros(65)} {
		noRestored(t, "one block and both", []string{odd}, []int64{0}, "", "", impl.ErrInvalid)
		noRestored(t, "two blocks and both", []string{odd, odd}, []int64{0, 1}, "", "", impl.ErrInvalid)
		noRestored(t, "all blocks and both", slices.Repeat([]string{odd}, 128), upTo(128), "", "", impl.ErrInvalid)
		for _, s := range []string{"a", zeros(64)} {
			whole, c := impl.RestoreTwo([]string{odd}, []int64{0}, s, "")
			diskIs(t, "one block and Q", whole, c, []string{s})
			whole, c = impl.RestoreTwo([]string{odd}, []int64{0}, "", s)
			diskIs(t, "one block and P", whole, c, []string{s})
			noRestored(t, "two blocks and Q", []string{odd, odd}, []int64{0, 1}, s, "", impl.ErrDamaged)
			noRestored(t, "two blocks and P", []string{odd, odd}, []int64{0, 1}, "", s, impl.ErrDamaged)
			noRestored(t, "three blocks", []string{odd, odd, odd}, []int64{0, 1, 2}, s, s, impl.ErrDamaged)
			noRestored(t, "all blocks", slices.Repeat([]string{odd}, 128), upTo(128), s, s, impl.ErrDamaged)
		}
	}
}

func TestP24TooMuchIsLost(t *testing.T) {
	from := source(708)
	for _, count := range []int64{2, 3, 4, 128} {
		blocks := from.group(int(count), 3)
		p, q := plainParity(blocks)
		last := count - 1
		noRestored(t, "two blocks and Q", blocks, []int64{0, last}, p, "", impl.ErrDamaged)
		noRestored(t, "two blocks and P", blocks, []int64{0, last}, "", q, impl.ErrDamaged)
		noRestored(t, "one block and both", blocks, []int64{last}, "", "", impl.ErrDamaged)
		if count == 2 {
			continue
		}
		noRestored(t, "two blocks and both", blocks, []int64{0, last}, "", "", impl.ErrDamaged)
		noRestored(t, "three blocks", blocks, []int64{0, 1, last}, p, q, impl.ErrDamaged)
		noRestored(t, "three blocks and Q", blocks, []int64{0, 1, last}, p, "", impl.ErrDamaged)
		noRestored(t, "three blocks and P", blocks, []int64{0, 1, last}, "", q, impl.ErrDamaged)
		noRestored(t, "all blocks", blocks, upTo(int(count)), p, q, impl.ErrDamaged)
		other := withBlock(blocks, 2, "abcd")
		if count > 3 {
			noRestored(t, "three blocks, other lengths", other, []int64{0, 1, last}, p, q, impl.ErrInvalid)
		}
		noRestored(t, "two blocks and P, other lengths", other, []int64{0, 1}, "", q, impl.ErrInvalid)
		noRestored(t, "three blocks, another P", blocks, []int64{0, 1, last}, p[1:], q, impl.ErrInvalid)
		noRestored(t, "one block and both, other lengths", other, []int64{1}, "", "", impl.ErrInvalid)
		noRestored(t, "all blocks, another Q", blocks, upTo(int(count)), p, q+"\x00", impl.ErrInvalid)
	}
	long := slices.Repeat([]string{zeros(65)}, 4)
	noRestored(t, "three long blocks", long, []int64{0, 1, 2}, long[0], long[0], impl.ErrInvalid)
	noRestored(t, "three of too many", slices.Repeat([]string{"a"}, 129), []int64{0, 1, 128}, "a", "a", impl.ErrInvalid)
}

func TestP24OtherLengths(t *testing.T) {
	from := source(709)
	for _, size := range []int{1, 2, 64} {
		blocks := from.group(3, size)
		p, q := plainParity(blocks)
		for _, other := range otherLengths(p) {
			if len(other) == size {
				continue
			}
			for _, lost := range [][]int64{nil, {0}, {0, 1}} {
				noRestored(t, "block", withBlock(blocks, 2, other), lost, p, q, impl.ErrInvalid)
				if other != "" {
					noRestored(t, "P", blocks, lost, other, q, impl.ErrInvalid)
					noRestored(t, "Q", blocks, lost, p, other, impl.ErrInvalid)
					noRestored(t, "both", blocks, lost, other, other, impl.ErrInvalid)
					noRestored(t, "P without Q", blocks, lost, other, "", impl.ErrInvalid)
					noRestored(t, "Q without P", blocks, lost, "", other, impl.ErrInvalid)
				}
			}
			if other != "" {
				noRestored(t, "P of lost blocks", []string{"", ""}, []int64{0, 1}, other, q, impl.ErrInvalid)
				noRestored(t, "Q of a lost block", []string{""}, []int64{0}, p, other, impl.ErrInvalid)
			}
		}
	}
	many := slices.Repeat([]string{"a"}, 129)
	for _, lost := range [][]int64{nil, {0}, {128}, {0, 128}} {
		noRestored(t, "too many", many, lost, "a", "a", impl.ErrInvalid)
	}
	for _, s := range []string{"", zeros(65)} {
		noRestored(t, "no size", []string{s, s}, nil, s, s, impl.ErrInvalid)
		noRestored(t, "no size", []string{s, s}, []int64{1}, s, s, impl.ErrInvalid)
	}
}

// loss returns any arguments of RestoreTwo, of which most are nearly right.
func (s *source) loss() ([]string, []int64, string, string) {
	count, size := int(s.below(5)), int(1+s.below(3))
	if s.below(6) == 0 {
		count = int(126 + s.below(4))
	}
	if s.below(6) == 0 {
		size = int(63 + s.below(3))
	}
	blocks := s.group(count, size)
	p, q := s.bytes(size), s.bytes(size)
	if count > 0 && s.below(2) == 0 {
		p, q = plainParity(blocks)
	}
	lost := s.rising(0, int64(count), int64(1+max(count/2, 1)))
	if s.below(8) == 0 {
		lost = append(lost, s.below(int64(count)+2)-1)
	}
	for _, i := range lost {
		if i >= 0 && i < int64(count) && s.below(2) == 0 {
			blocks[i] = s.bytes(int(s.below(70)))
		}
	}
	if count > 0 && s.below(8) == 0 {
		blocks[s.below(int64(count))] = s.bytes(size + int(s.below(3)) - 1)
	}
	for _, parity := range []*string{&p, &q} {
		switch s.below(8) {
		case 0, 1:
			*parity = ""
		case 2:
			*parity = s.bytes(size + int(s.below(3)) - 1)
		}
	}
	return blocks, lost, p, q
}

func TestP24AnyLoss(t *testing.T) {
	from := source(710)
	counts := map[int64]int{}
	for range 8000 {
		blocks, lost, p, q := from.loss()
		want := plainRestoreCode(blocks, lost, p, q)
		counts[want]++
		whole, c := impl.RestoreTwo(blocks, lost, p, q)
		if want != impl.OK {
			noDisk(t, "lost"+listText(lost), whole, c, want)
		} else {
			diskIs(t, "lost"+listText(lost), whole, c, plainRestored(blocks, lost, p, q))
		}
		if len(lost) != 1 {
			continue
		}
		one, c := impl.RestoreOne(blocks, lost[0], p)
		switch wantOne := plainRestoreCode(blocks, lost, p, ""); {
		case wantOne == impl.ErrDamaged:
			textIs(t, "without P", one, c, "", impl.ErrInvalid)
		case wantOne != impl.OK:
			textIs(t, "none", one, c, "", wantOne)
		default:
			textIs(t, "one", one, c, plainRestored(blocks, lost, p, "")[lost[0]], impl.OK)
		}
	}
	for _, c := range []int64{impl.OK, impl.ErrRange, impl.ErrInvalid, impl.ErrDamaged} {
		is(t, "cases of "+impl.CodeName(c), counts[c] > 100, true)
	}
}

// plainDamaged tries for each block of a group the only bytes with which P is right.
func plainDamaged(blocks []string, p, q string) (int64, int64) {
	wantP, wantQ := plainParity(blocks)
	switch {
	case wantP == p && wantQ == q:
		return -1, impl.OK
	case wantP == p || wantQ == q:
		return 0, impl.ErrState
	}
	for i, block := range blocks {
		other := []byte(block)
		for at := range other {
			other[at] ^= wantP[at] ^ p[at]
		}
		if _, otherQ := plainParity(withBlock(blocks, i, string(other))); otherQ == q {
			return int64(i), impl.OK
		}
	}
	return 0, impl.ErrDamaged
}

func damagedIs(t *testing.T, what string, blocks []string, p, q string, want, wantCode int64) {
	t.Helper()
	got, c := impl.FindDamaged(blocks, p, q)
	is(t, what, []any{got, impl.CodeName(c)}, []any{want, impl.CodeName(wantCode)})
}

// someBytes returns a block in which bytes at places from the first one on, each step places behind the one before, are others.
func (s *source) someBytes(block string, first, step int) string {
	other := block
	for at := first; at < len(other); at += step {
		other = xored(other, at, byte(1+s.below(255)))
	}
	return other
}

func TestP24TheDamagedBlock(t *testing.T) {
	from := source(711)
	for _, count := range []int{1, 2, 3, 128} {
		for _, size := range []int{1, 2, 7, 64} {
			blocks := from.group(count, size)
			p, q := plainParity(blocks)
			damagedIs(t, "none", blocks, p, q, -1, impl.OK)
			for i, block := range blocks {
				for _, other := range []string{xored(block, 0, 1), xored(block, size-1, 255), from.someBytes(block, int(from.below(int64(size))), size), from.someBytes(block, 0, 1), from.someBytes(block, 0, 3), from.someBytes(block, size/2, 1)} {
					damagedIs(t, "one of "+strconv.Itoa(count), withBlock(blocks, i, other), p, q, int64(i), impl.OK)
				}
			}
			damagedIs(t, "none, again", blocks, p, q, -1, impl.OK)
		}
	}
}

func TestP24TwoDamagedBlocks(t *testing.T) {
	from := source(712)
	for _, count := range []int64{2, 3, 5, 128} {
		blocks := from.group(int(count), 4)
		p, q := plainParity(blocks)
		for range 200 {
			i := from.below(count)
			j := (i + 1 + from.below(count-1)) % count
			both := func(one, two string) []string {
				return withBlock(withBlock(blocks, int(i), one), int(j), two)
			}
			by := 1 + from.below(255)
			damagedIs(t, "cancelled in P", both(xored(blocks[i], 2, byte(by)), xored(blocks[j], 2, byte(by))), p, q, 0, impl.ErrState)
			one, two := plainProduct(by, plainPower(255-i)), plainProduct(by, plainPower(255-j))
			damagedIs(t, "cancelled in Q", both(xored(blocks[i], 1, byte(one)), xored(blocks[j], 1, byte(two))), p, q, 0, impl.ErrState)
			damagedIs(t, "different places", both(xored(blocks[i], 0, byte(by)), xored(blocks[j], 3, byte(by))), p, q, 0, impl.ErrDamaged)
			damagedIs(t, "cancelled in P and in Q", both(xored(xored(blocks[i], 1, byte(one)), 2, byte(by)), xored(xored(blocks[j], 1, byte(two)), 2, byte(by))), p, q, 0, impl.ErrDamaged)
			damaged := both(from.someBytes(blocks[i], 0, 2), from.someBytes(blocks[j], 1, 1))
			want, wantCode := plainDamaged(damaged, p, q)
			damagedIs(t, "any places", damaged, p, q, want, wantCode)
		}
	}
}

func TestP24TwoBlocksThatActLikeOne(t *testing.T) {
	from := source(713)
	found := map[int64]int{}
	for _, count := range []int64{2, 3, 40, 128} {
		blocks := from.group(int(count), 1)
		p, q := plainParity(blocks)
		for range 300 {
			i, j := from.below(count), from.below(count)
			damaged := withBlock(blocks, int(i), from.bytes(1))
			damaged = withBlock(damaged, int(j), from.bytes(1))
			want, wantCode := plainDamaged(damaged, p, q)
			damagedIs(t, "one byte", damaged, p, q, want, wantCode)
			if wantCode == impl.OK && want != i && want != j {
				found[want]++
			}
		}
	}
	is(t, "other blocks", len(found) > 20, true)
	// P is wrong by 1 + 2, and Q by 1 + 2*2, which is 3 times the power of 25.
	damagedIs(t, "behind the last one", []string{"\x01", "\x02"}, "\x00", "\x00", 0, impl.ErrDamaged)
}

func TestP24WrongParityBlocks(t *testing.T) {
	from := source(714)
	for _, count := range []int{1, 2, 3, 128} {
		for _, size := range []int{2, 5, 64} {
			blocks := from.group(count, size)
			p, q := plainParity(blocks)
			for at := range size {
				by := byte(1 + from.below(255))
				damagedIs(t, "only P", blocks, xored(p, at, by), q, 0, impl.ErrState)
				damagedIs(t, "only Q", blocks, p, xored(q, at, by), 0, impl.ErrState)
				damagedIs(t, "both at different places", blocks, xored(p, at, by), xored(q, (at+1)%size, by), 0, impl.ErrDamaged)
				damagedIs(t, "as of the first block", blocks, xored(p, at, by), xored(q, at, by), 0, impl.OK)
			}
			damagedIs(t, "all of P", blocks, from.someBytes(p, 0, 1), q, 0, impl.ErrState)
			damagedIs(t, "all of Q", blocks, p, from.someBytes(q, 0, 1), 0, impl.ErrState)
			damagedIs(t, "P, and all of Q", blocks, xored(p, 0, 1), from.someBytes(q, 0, 1), 0, impl.ErrDamaged)
			damagedIs(t, "all of P, and Q", blocks, from.someBytes(p, 0, 1), xored(q, size-1, 1), 0, impl.ErrDamaged)
			if p != q {
				want, wantCode := plainDamaged(blocks, q, p)
				damagedIs(t, "exchanged", blocks, q, p, want, wantCode)
			}
		}
	}
}

// pointing returns parity blocks that are wrong at places from 0 on, each so that the byte points to the block given for it; -1 stands for a byte that is right.
func pointing(p, q string, by byte, indices ...int64) (string, string) {
	for at, i := range indices {
		if i >= 0 {
			p, q = xored(p, at, by), xored(q, at, byte(plainProduct(int64(by), plainPower(i))))
		}
	}
	return p, q
}

func TestP24BytesThatPointToBlocks(t *testing.T) {
	from := source(715)
	for _, count := range []int64{1, 2, 3, 60, 128} {
		blocks := from.group(int(count), 4)
		p, q := plainParity(blocks)
		for i := range int64(255) {
			by := byte(1 + from.below(255))
			for _, list := range [][]int64{{i}, {-1, -1, -1, i}, {i, i}, {i, -1, i, i}} {
				wrongP, wrongQ := pointing(p, q, by, list...)
				if i < count {
					damagedIs(t, "to one block", blocks, wrongP, wrongQ, i, impl.OK)
				} else {
					damagedIs(t, "behind the last one", blocks, wrongP, wrongQ, 0, impl.ErrDamaged)
				}
			}
			for _, list := range [][]int64{{i, (i + 1) % 255}, {i, i, i, (i + 254) % 255}, {(i + 100) % 255, i, i, -1}, {-1, i, -1, (i + 7) % 255}} {
				wrongP, wrongQ := pointing(p, q, by, list...)
				damagedIs(t, "to different ones", blocks, wrongP, wrongQ, 0, impl.ErrDamaged)
			}
			wrongP, wrongQ := pointing(p, q, by, i, i)
			damagedIs(t, "one more byte of P", blocks, xored(wrongP, 3, 1), wrongQ, 0, impl.ErrDamaged)
			damagedIs(t, "one more byte of Q", blocks, wrongP, xored(wrongQ, 3, 1), 0, impl.ErrDamaged)
		}
	}
}

func TestP24AnyDamage(t *testing.T) {
	from := source(716)
	counts := map[int64]int{}
	for range 3000 {
		count, size := int(1+from.below(9)), int(1+from.below(3))
		blocks := from.group(count, size)
		p, q := plainParity(blocks)
		for range from.below(3) {
			i := from.below(int64(count))
			blocks[i] = xored(blocks[i], int(from.below(int64(size))), byte(from.below(256)))
		}
		if from.below(4) == 0 {
			p = xored(p, 0, byte(from.below(256)))
		}
		if from.below(4) == 0 {
			q = xored(q, 0, byte(from.below(256)))
		}
		want, wantCode := plainDamaged(blocks, p, q)
		counts[wantCode]++
		damagedIs(t, "any", blocks, p, q, want, wantCode)
		isRight := want == -1
		parityFits(t, "any", blocks, p, q, isRight)
	}
	for _, c := range []int64{impl.OK, impl.ErrState, impl.ErrDamaged} {
		is(t, "cases of "+impl.CodeName(c), counts[c] > 100, true)
	}
}

func TestP24AFoundBlockIsRestored(t *testing.T) {
	from := source(717)
	for range 300 {
		count, size := 1+from.below(128), int(1+from.below(64))
		blocks := from.group(int(count), size)
		p, q, _ := impl.MakeParity(blocks)
		i := from.below(count)
		damaged := withBlock(blocks, int(i), from.someBytes(blocks[i], int(from.below(int64(size))), 5))
		found, c := impl.FindDamaged(damaged, p, q)
		is(t, "found", []any{found, impl.CodeName(c)}, []any{i, "ok"})
		one, c := impl.RestoreOne(damaged, found, p)
		textIs(t, "by P", one, c, blocks[i], impl.OK)
		for _, parity := range [][2]string{{p, q}, {p, ""}, {"", q}} {
			whole, c := impl.RestoreTwo(damaged, []int64{found}, parity[0], parity[1])
			diskIs(t, "by either", whole, c, blocks)
		}
		nextP, nextQ, c := impl.UpdateParity(p, q, i, blocks[i], damaged[i])
		code(t, "updated", c, impl.OK)
		parityFits(t, "the damaged block", damaged, nextP, nextQ, true)
		is(t, "what is left", strings.Join(damaged[:i], "") == strings.Join(blocks[:i], ""), true)
	}
}
