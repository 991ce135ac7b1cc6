package tests

import (
	"math"
	"strings"
	"testing"

	"loop.example/g00899/impl"
)

func TestP2CodeNames(t *testing.T) {
	names := strings.Fields("ok invalid range not-found exists full state format checksum weak damaged ambiguous syntax")
	for i, name := range names {
		is(t, "name of a code", impl.CodeName(int64(i)), name)
	}
	codes := []int64{impl.OK, impl.ErrInvalid, impl.ErrRange, impl.ErrNotFound, impl.ErrExists, impl.ErrFull, impl.ErrState, impl.ErrFormat, impl.ErrChecksum, impl.ErrWeak, impl.ErrDamaged, impl.ErrAmbiguous, impl.ErrSyntax}
	is(t, "codes", codes, []int64{0, 1, 2, 3, 4, 5, 6, 7, 8, 9, 10, 11, 12})
	for _, n := range []int64{-1, 13, 256, 1 << 32, math.MinInt64, math.MaxInt64} {
		is(t, "name of no code", impl.CodeName(n), "")
	}
	is(t, "constants", []int64{impl.MaxName, impl.MaxBytes, impl.CrcStart, impl.CrcFactor}, []int64{8, 4096, 65535, 4129})
}

func TestP2IsName(t *testing.T) {
	for _, s := range []string{"A", "Z", "AZ", "A0", "A9", "A_", "FILE_1", "ABCDEFGH", "A_______", "Z0123456"} {
		is(t, "name "+s, impl.IsName(s), true)
	}
	for _, s := range []string{"", "a", "file", "Fa", "0A", "9", "_A", "_", "A B", "A ", " A", "A-B", "A.B", "A@", "A[", "A`", "A/", "A:", "ABCDEFGHI", "A\x00", "A\xff", "A\u00c4", "\u00c4", "A\uff11"} {
		is(t, "no name "+s, impl.IsName(s), false)
	}
}

func TestP2TextsOfBytes(t *testing.T) {
	is(t, "hexadecimal example", impl.HexText("\xa1"), "a1")
	is(t, "bits of the example", impl.BitsOf("\xa1"), "10100001")
	for b := range 256 {
		s := string([]byte{byte(b)})
		hex := "0123456789abcdef"[b/16:b/16+1] + "0123456789abcdef"[b%16:b%16+1]
		bits := ""
		for weight := 128; weight > 0; weight /= 2 {
			bits += string(rune('0' + b/weight%2))
		}
		is(t, "hexadecimal digits", impl.HexText(s), hex)
		is(t, "bits", impl.BitsOf(s), bits)
	}
	from := source(1)
	for _, count := range []int{0, 1, 2, 3, 8, 100, impl.MaxBytes - 1, impl.MaxBytes} {
		restored(t, from.bytes(count))
	}
	restored(t, strings.Repeat("\xff", impl.MaxBytes))
	restored(t, strings.Repeat("\u00e9", 9))
}

// restored checks that both texts of bytes lead back to them.
func restored(t *testing.T, s string) {
	t.Helper()
	hex, bits := impl.HexText(s), impl.BitsOf(s)
	is(t, "length of digits", len(hex), 2*len(s))
	is(t, "length of bits", len(bits), 8*len(s))
	back, ok := impl.ReadHex(hex)
	is(t, "bytes of digits", []any{back, ok}, []any{s, true})
	back, ok = impl.BytesOf(bits)
	is(t, "bytes of bits", []any{back, ok}, []any{s, true})
}

func TestP2TooManyBytes(t *testing.T) {
	long := strings.Repeat("a", impl.MaxBytes+1)
	is(t, "digits of too many bytes", impl.HexText(long), "")
	is(t, "bits of too many bytes", impl.BitsOf(long), "")
	back, ok := impl.ReadHex(strings.Repeat("61", impl.MaxBytes+1))
	is(t, "too many digits", []any{back, ok}, []any{"", false})
	back, ok = impl.BytesOf(strings.Repeat("01100001", impl.MaxBytes+1))
	is(t, "too many bits", []any{back, ok}, []any{"", false})
}

func TestP2TextsOfNoBytes(t *testing.T) {
	for _, s := range []string{"A1", "aF", "a", "a1f", "g0", "0g", " a1", "a1 ", "a 1 ", "0x", "-1", "+1", "a1\n ", "a1:b", "a1/b", "a1`b", "\x00\x00", "a\xff", "\xff\xff", "\u00e9", "a\u00e91", "\u0661", "\ufffd0", "\uff11a"} {
		back, ok := impl.ReadHex(s)
		is(t, "digits "+s, []any{back, ok}, []any{"", false})
	}
	for _, s := range []string{"0", "1010", "1010000", "101000011", "10100002", "1010000a", " 1010000", "1010000 ", "1010 0001", "+1010000", "-1010000", "1010000\x00", "1010000\xff", "101000\u00e9", "0000\uff100", "\x00\x00\x00\x00\x00\x00\x00\x00", "0000000/"} {
		back, ok := impl.BytesOf(s)
		is(t, "bits "+s, []any{back, ok}, []any{"", false})
	}
}

// plainCheck follows the words of the document bit by bit.
func plainCheck(s string, value int64) int64 {
	for i := range len(s) {
		for weight := byte(128); weight > 0; weight /= 2 {
			lost := false
			value *= 2
			if value >= 65536 {
				value, lost = value-65536, true
			}
			if lost != (s[i]&weight != 0) {
				value ^= 4129
			}
		}
	}
	return value
}

func TestP2CheckValues(t *testing.T) {
	is(t, "example", impl.Crc16("123456789", impl.CrcStart), int64(10673))
	from := source(2)
	for range 300 {
		s, start := from.bytes(int(from.below(40))), from.below(65536)
		is(t, "check value", impl.Crc16(s, start), plainCheck(s, start))
	}
	long := from.bytes(3*impl.MaxBytes + 1)
	is(t, "check value of many bytes", impl.Crc16(long, 1), plainCheck(long, 1))
	for b := range 256 {
		s := string([]byte{byte(b)})
		is(t, "check value of a byte", impl.Crc16(s, 0), plainCheck(s, 0))
	}
	for _, start := range []int64{0, 1, 65534, 65535} {
		is(t, "check value of nothing", impl.Crc16("", start), start)
		is(t, "check value of a letter", impl.Crc16("a", start), plainCheck("a", start))
	}
	for _, start := range []int64{-1, 65536, 65537, math.MinInt64, math.MaxInt64} {
		is(t, "no start", impl.Crc16("", start), int64(-1))
		is(t, "no start", impl.Crc16("a", start), int64(-1))
	}
}

// Strings of more than MaxBytes bytes are checked with a table, all others with a function.
func TestP2CheckValuesOfTheTableAndTheFunction(t *testing.T) {
	zeros := strings.Repeat("\x00", impl.MaxBytes)
	is(t, "check value of zeros", impl.Crc16(zeros, 0), int64(0))
	for b := range 256 {
		// Each half of a byte behind zeros meets another element of the table.
		s := string([]byte{byte(b)})
		is(t, "check value behind zeros", impl.Crc16(zeros+s, 0), impl.Crc16(s, 0))
	}
	from := source(13)
	for _, count := range []int{impl.MaxBytes - 1, impl.MaxBytes, impl.MaxBytes + 1, 2 * impl.MaxBytes} {
		s, start := from.bytes(count), from.below(65536)
		half := impl.Crc16(s[:count/2], start)
		is(t, "check value in two halves", impl.Crc16(s, start), impl.Crc16(s[count/2:], half))
		is(t, "check value bit by bit", impl.Crc16(s, start), plainCheck(s, start))
	}
	for _, start := range []int64{-1, 65536} {
		is(t, "no start", impl.Crc16(zeros+"a", start), int64(-1))
	}
}

func TestP2CheckValuesAreLinear(t *testing.T) {
	from := source(3)
	for range 300 {
		count := int(from.below(30))
		a, b, s, u := from.bytes(count), from.bytes(count), from.below(65536), from.below(65536)
		both, _ := impl.XorBytes(a, b)
		is(t, "check value of a combination", impl.Crc16(both, s^u), impl.Crc16(a, s)^impl.Crc16(b, u))
		is(t, "check value in two parts", impl.Crc16(a+b, s), impl.Crc16(b, impl.Crc16(a, s)))
		is(t, "check value with itself", impl.Crc16(a+impl.PutWord(impl.Crc16(a, s)), s), int64(0))
	}
}

func TestP2CheckValuesFindChanges(t *testing.T) {
	const bytes = 5
	from := source(4)
	s := from.bytes(bytes)
	right := impl.Crc16(s, impl.CrcStart)
	for at := range 8*bytes - 15 {
		for change := uint64(1); change < 65536; change++ {
			spread := change << (8*bytes - 16 - at)
			wrong := []byte(s)
			for i := range wrong {
				wrong[i] ^= byte(spread >> (8 * (bytes - 1 - i)))
			}
			if impl.Crc16(string(wrong), impl.CrcStart) == right {
				t.Fatalf("change %x at bit %d is not found", change, at)
			}
		}
	}
}

func TestP2Sum16(t *testing.T) {
	for s, want := range map[string]int64{"": 0, "ab": 195, "\xff": 255, "\x00\x80": 128, strings.Repeat("\xff", 257): 65535, strings.Repeat("\xff", 257) + "\x01": 0, strings.Repeat("\xff", 258): 254, strings.Repeat("\xff", 600): 153000 - 2*65536} {
		is(t, "sum", impl.Sum16(s), want)
	}
}

func TestP2XorBytes(t *testing.T) {
	from := source(5)
	for _, count := range []int{0, 1, 2, 50, impl.MaxBytes + 1} {
		a, b := from.bytes(count), from.bytes(count)
		both, ok := impl.XorBytes(a, b)
		is(t, "two strings", []any{len(both), ok}, []any{count, true})
		for i := range both {
			is(t, "byte", both[i], a[i]^b[i])
		}
		back, ok := impl.XorBytes(both, b)
		is(t, "back", []any{back, ok}, []any{a, true})
	}
	for _, pair := range [][2]string{{"a", ""}, {"", "a"}, {"ab", "a"}, {"a", "abc"}} {
		both, ok := impl.XorBytes(pair[0], pair[1])
		is(t, "other length", []any{both, ok}, []any{"", false})
	}
}

func TestP2Words(t *testing.T) {
	for n := range int64(65536) {
		s := impl.PutWord(n)
		if s != string([]byte{byte(n / 256), byte(n % 256)}) {
			t.Fatalf("word %d is %q", n, s)
		}
		back, ok := impl.GetWord("x"+s+"y", 1)
		if back != n || !ok {
			t.Fatalf("word %d is read as %d, %v", n, back, ok)
		}
	}
	for _, n := range []int64{-1, 65536, 65537, 1 << 32, math.MinInt64, math.MaxInt64} {
		is(t, "no word", impl.PutWord(n), "")
	}
	for at, want := range map[int64]int64{0: 258, 1: 515, 2: 1020} {
		n, ok := impl.GetWord("\x01\x02\x03\xfc", at)
		is(t, "word", []any{n, ok}, []any{want, true})
	}
	for _, at := range []int64{-1, 3, 4, 5, math.MinInt64, math.MaxInt64 - 1, math.MaxInt64} {
		n, ok := impl.GetWord("\x01\x02\x03\xfc", at)
		is(t, "not both bytes", []any{n, ok}, []any{int64(0), false})
	}
	for _, s := range []string{"", "a"} {
		n, ok := impl.GetWord(s, 0)
		is(t, "short string", []any{n, ok}, []any{int64(0), false})
	}
}
