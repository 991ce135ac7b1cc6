package impl

import (
	"iter"
	"slices"
	"strconv"
	"strings"
)

// Limits of cells and flux.
const (
	MaxCells = 8000
	MaxGaps  = 4000
	MaxTicks = 2000000
	MinCell  = 4
	MaxCell  = 200
)

// maxScale is the greatest factor and the greatest divisor of ScaleFlux.
const maxScale = 1000

// Flux is what a revolution of a track yields: the ticks of a bit cell, the ticks from the index to the first change of magnetisation, and those from each change to the next one.
type Flux struct {
	Cell  int64
	First int64
	Gaps  []int64
}

// times are numbers of ticks.
type times []int64

func (t times) sum() int64 {
	sum := int64(0)
	for _, n := range t {
		sum += n
	}
	return sum
}

// text returns the numbers in decimal, separated by single blanks.
func (t times) text() string {
	var out strings.Builder
	for i, n := range t {
		if i > 0 {
			out.WriteByte(' ')
		}
		out.WriteString(strconv.FormatInt(n, 10))
	}
	return out.String()
}

// flux returns the flux with changes at t, of which there is at least one; it is not valid for all times.
func (t times) flux(revolution, cell int64) Flux {
	gaps := make([]int64, len(t))
	for i := range t {
		next := t[0] + revolution
		if i+1 < len(t) {
			next = t[i+1]
		}
		gaps[i] = next - t[i]
	}
	return Flux{Cell: cell, First: t[0], Gaps: gaps}
}

// changesIn yields the number and the time of each change of f.
func changesIn(f Flux) iter.Seq2[int, int64] {
	return func(yield func(int, int64) bool) {
		at := f.First
		for i, gap := range f.Gaps {
			if !yield(i, at) {
				return
			}
			at += gap
		}
	}
}

// ValidCells reports whether s is a string of bit cells.
func ValidCells(s string) bool {
	for _, r := range s {
		if r != '0' && r != '1' {
			return false
		}
	}
	return within(1, MaxCells, int64(len(s)))
}

// ValidFlux reports whether f is valid.
func ValidFlux(f Flux) bool {
	count := int64(len(f.Gaps))
	if !within(MinCell, MaxCell, f.Cell) || !within(1, MaxGaps, count) {
		return false
	}
	// With each gap bounded first, their sum cannot overflow.
	if !within(1, MaxTicks, f.Gaps...) || times(f.Gaps).sum() > MaxTicks {
		return false
	}
	return within(0, f.Gaps[count-1]-1, f.First)
}

// SameFlux reports whether a and b are deeply equal.
func SameFlux(a, b Flux) bool {
	return a.Cell == b.Cell && a.First == b.First && slices.Equal(a.Gaps, b.Gaps)
}

// FluxOf returns the flux of bit cells.
func FluxOf(cells string, cell int64) (Flux, int64) {
	if !ValidCells(cells) || !within(MinCell, MaxCell, cell) {
		return Flux{}, ErrInvalid
	}
	var changes times
	for i, r := range cells {
		if r == '1' {
			changes = append(changes, int64(i)*cell+cell/2)
		}
	}
	if len(changes) == 0 {
		return Flux{}, ErrState
	}
	if len(changes) > MaxGaps {
		return Flux{}, ErrFull
	}
	return changes.flux(int64(len(cells))*cell, cell), OK
}

// RevolutionOf returns the ticks of a revolution.
func RevolutionOf(f Flux) int64 {
	if !ValidFlux(f) {
		return -1
	}
	return times(f.Gaps).sum()
}

// ChangesOf returns the ticks from the index to each change.
func ChangesOf(f Flux) []int64 {
	if !ValidFlux(f) {
		return nil
	}
	list := make([]int64, len(f.Gaps))
	for i, at := range changesIn(f) {
		list[i] = at
	}
	return list
}

// RotateCells moves the beginning of a circular string of cells.
func RotateCells(cells string, by int64) (string, bool) {
	if !ValidCells(cells) {
		return "", false
	}
	count := int64(len(cells))
	// The remainder of a negative number is negative.
	at := (by%count + count) % count
	return cells[at:] + cells[:at], true
}

// RotateFlux moves the index.
func RotateFlux(f Flux, by int64) (Flux, int64) {
	if !ValidFlux(f) {
		return Flux{}, ErrInvalid
	}
	revolution := RevolutionOf(f)
	if !within(0, revolution-1, by) {
		return Flux{}, ErrRange
	}
	// An index behind all changes is followed by the first change of the next revolution.
	start, first := 0, revolution+f.First-by
	for i, at := range changesIn(f) {
		if at >= by {
			start, first = i, at-by
			break
		}
	}
	gaps := make([]int64, len(f.Gaps))
	moved := copy(gaps, f.Gaps[start:])
	copy(gaps[moved:], f.Gaps[:start])
	return Flux{Cell: f.Cell, First: first, Gaps: gaps}, OK
}

// ScaleFlux multiplies all times by a fraction.
func ScaleFlux(f Flux, num, den int64) (Flux, int64) {
	if !ValidFlux(f) {
		return Flux{}, ErrInvalid
	}
	if !within(1, maxScale, num, den) {
		return Flux{}, ErrRange
	}
	changes := times(ChangesOf(f))
	for i := range changes {
		changes[i] = changes[i] * num / den
	}
	// Gaps come from scaled times: rounding each gap instead would add up to a shift.
	scaled := changes.flux(RevolutionOf(f)*num/den, f.Cell)
	if !ValidFlux(scaled) {
		return Flux{}, ErrRange
	}
	return scaled, OK
}

// SpliceCells replaces a part of circular cells.
func SpliceCells(cells string, at int64, part string) (string, int64) {
	if !ValidCells(cells) || !ValidCells(part) {
		return "", ErrInvalid
	}
	if !within(0, int64(len(cells))-1, at) || len(part) > len(cells) {
		return "", ErrRange
	}
	out := []byte(cells)
	for i := range len(part) {
		out[(int(at)+i)%len(out)] = part[i]
	}
	return string(out), OK
}

// FluxText returns the text form of flux.
func FluxText(f Flux) string {
	if !ValidFlux(f) {
		return ""
	}
	return append(times{f.Cell, f.First}, f.Gaps...).text()
}

// numbersIn reads numbers of at most MaxTicks that blanks separate. It accepts leading zeros, and reads an empty number as 0.
func numbersIn(s string) (times, bool) {
	var list times
next:
	for {
		n := int64(0)
		for i, r := range s {
			switch {
			case r >= '0' && r <= '9':
				n = n*10 + int64(r-'0')
				if n > MaxTicks {
					return nil, false
				}
			case r == ' ':
				list = append(list, n)
				s = s[i+1:]
				continue next
			default:
				return nil, false
			}
		}
		return append(list, n), true
	}
}

// ReadFlux returns the flux with a text form.
func ReadFlux(s string) (Flux, bool) {
	list, ok := numbersIn(s)
	if !ok || len(list) < 3 {
		return Flux{}, false
	}
	f := Flux{Cell: list[0], First: list[1], Gaps: list[2:]}
	// Writing f again refuses every text that is not canonical.
	if !ValidFlux(f) || FluxText(f) != s {
		return Flux{}, false
	}
	return f, true
}
