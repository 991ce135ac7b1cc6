package impl

import (
	"strings"
	"sync"
)

// Error codes.
const (
	OK = iota
	ErrInvalid
	ErrRange
	ErrNotFound
	ErrExists
	ErrFull
	ErrState
	ErrFormat
	ErrChecksum
	ErrWeak
	ErrDamaged
	ErrAmbiguous
	ErrSyntax
)

// Limits of names and bytes, and the numbers that check values are made with.
const (
	MaxName   = 8
	MaxBytes  = 4096
	CrcStart  = 65535
	CrcFactor = 4129
)

// byteBits is the number of bits of a byte, maxByte the greatest number that it holds, and maxWord that of two bytes.
const (
	byteBits = 8
	maxByte  = 1<<byteBits - 1
	maxWord  = 65535
)

// digits are those of all texts of bytes: bits use the first two of them.
const digits = "0123456789abcdef"

var codeNames = [...]string{
	OK:           "ok",
	ErrInvalid:   "invalid",
	ErrRange:     "range",
	ErrNotFound:  "not-found",
	ErrExists:    "exists",
	ErrFull:      "full",
	ErrState:     "state",
	ErrFormat:    "format",
	ErrChecksum:  "checksum",
	ErrWeak:      "weak",
	ErrDamaged:   "damaged",
	ErrAmbiguous: "ambiguous",
	ErrSyntax:    "syntax",
}

// checkTable holds the check values of four bits each, which depend on nothing but CrcFactor; checkOnce fills it before its first use. It serves strings of more than MaxBytes bytes: all others are checked with checkOfBits, which reads no variable.
var (
	checkOnce  sync.Once
	checkTable [16]int64
)

// within reports whether all numbers of a list are from low to high.
func within(low, high int64, list ...int64) bool {
	for _, n := range list {
		if n < low || n > high {
			return false
		}
	}
	return true
}

// areBytes reports whether all numbers of a list are values of a byte.
func areBytes(list ...int64) bool { return within(0, maxByte, list...) }

// every reports whether all elements of a list pass a test.
func every[T any](list []T, test func(T) bool) bool {
	for _, item := range list {
		if !test(item) {
			return false
		}
	}
	return true
}

// CodeName returns the name of an error code.
func CodeName(code int64) string {
	if !within(OK, ErrSyntax, code) {
		return ""
	}
	return codeNames[code]
}

// IsName reports whether a string is a name.
func IsName(s string) bool {
	for i, r := range s {
		switch {
		case r >= 'A' && r <= 'Z':
		case i > 0 && (r == '_' || r >= '0' && r <= '9'):
		default:
			return false
		}
	}
	return within(1, MaxName, int64(len(s)))
}

// digitsOf writes each byte of s with digits that stand for some bits each, upper bits first.
func digitsOf(s string, bits int) string {
	if len(s) > MaxBytes {
		return ""
	}
	var out strings.Builder
	for i := range len(s) {
		for shift := byteBits - bits; shift >= 0; shift -= bits {
			out.WriteByte(digits[(s[i]>>shift)&(1<<bits-1)])
		}
	}
	return out.String()
}

// ofDigits returns the bytes for which digitsOf returns the text, and whether there are any.
func ofDigits(text string, bits int) (string, bool) {
	each := byteBits / bits
	if len(text)%each != 0 || len(text) > MaxBytes*each {
		return "", false
	}
	var out []byte
	value := byte(0)
	// A rune of several bytes is no digit, so that up to it i counts the digits.
	for i, r := range text {
		digit := strings.IndexRune(digits[:1<<bits], r)
		if digit < 0 {
			return "", false
		}
		value = value<<bits | byte(digit)
		if (i+1)%each == 0 {
			out = append(out, value)
		}
	}
	return string(out), true
}

// HexText returns bytes as hexadecimal digits.
func HexText(s string) string { return digitsOf(s, 4) }

// ReadHex returns the bytes with a hexadecimal text.
func ReadHex(s string) (string, bool) { return ofDigits(s, 4) }

// BitsOf returns the bits of bytes.
func BitsOf(s string) string { return digitsOf(s, 1) }

// BytesOf returns the bytes with some bits.
func BytesOf(bits string) (string, bool) { return ofDigits(bits, 1) }

func fillChecks() {
	for n := range checkTable {
		value := int64(n) << 12
		for range 4 {
			value <<= 1
			if value > maxWord {
				value = (value - (maxWord + 1)) ^ CrcFactor
			}
		}
		checkTable[n] = value
	}
}

func checkInTable(bits int64) int64 { return checkTable[bits] }

// checkOfBits returns the check value of four bits. It is a product because CrcFactor, shifted by up to three places for each of them, neither meets a copy of itself nor leaves a word: its bits are 0, 5 and 12.
func checkOfBits(bits int64) int64 { return bits * CrcFactor }

// continueCheck continues a check value with bytes, four bits at a time, of which check returns the check value.
func continueCheck(s string, value int64, check func(int64) int64) int64 {
	for i := range len(s) {
		for _, bits := range [...]byte{s[i] >> 4, s[i] & 15} {
			value = (value<<4)&maxWord ^ check(value>>12^int64(bits))
		}
	}
	return value
}

// Crc16 continues a cyclic redundancy check.
func Crc16(s string, start int64) int64 {
	if !within(0, maxWord, start) {
		return -1
	}
	if len(s) > MaxBytes {
		checkOnce.Do(fillChecks)
		return continueCheck(s, start, checkInTable)
	}
	return continueCheck(s, start, checkOfBits)
}

// Sum16 returns the sum of bytes.
func Sum16(s string) int64 {
	sum := int64(0)
	for i := range len(s) {
		sum = (sum + int64(s[i])) & maxWord
	}
	return sum
}

// XorBytes combines two strings of bytes.
func XorBytes(a, b string) (string, bool) {
	if len(a) != len(b) {
		return "", false
	}
	out := []byte(a)
	for i := range out {
		out[i] ^= b[i]
	}
	return string(out), true
}

// PutWord returns a number as two bytes.
func PutWord(n int64) string {
	if !within(0, maxWord, n) {
		return ""
	}
	return string([]byte{byte(n >> byteBits), byte(n)})
}

// GetWord returns the number at a place.
func GetWord(s string, at int64) (int64, bool) {
	if !within(0, int64(len(s))-2, at) {
		return 0, false
	}
	return int64(s[at])<<byteBits | int64(s[at+1]), true
}
