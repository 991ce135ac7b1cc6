package tests

import (
	"reflect"
	"strconv"
	"strings"
	"sync"
	"testing"

	"loop.example/g00899/impl"
)

// stage1Strings returns the results of all functions of chapters 1 and 2 that have strings and numbers as arguments.
func stage1Strings(s, other string, n, m int64) []any {
	hex, isHex := impl.ReadHex(s)
	bytes, isBits := impl.BytesOf(s)
	both, isPair := impl.XorBytes(s, other)
	word, isWord := impl.GetWord(s, n)
	f, fluxCode := impl.FluxOf(s, n)
	turned, isTurned := impl.RotateCells(s, n)
	spliced, spliceCode := impl.SpliceCells(s, n, other)
	read, isRead := impl.ReadFlux(s)
	return []any{
		impl.CodeName(n), impl.IsName(s), impl.HexText(s), hex, isHex, impl.BitsOf(s), bytes, isBits, impl.Crc16(s, n), impl.Sum16(s), both, isPair, impl.PutWord(m), word, isWord,
		impl.ValidCells(s), f, fluxCode, turned, isTurned, spliced, spliceCode, read, isRead,
	}
}

// stage1Fluxes returns the results of all functions of chapter 2 that have flux as an argument.
func stage1Fluxes(f, g impl.Flux, n, m int64) []any {
	turned, turnCode := impl.RotateFlux(f, n)
	scaled, scaleCode := impl.ScaleFlux(f, n, m)
	return []any{impl.ValidFlux(f), impl.SameFlux(f, g), impl.RevolutionOf(f), impl.ChangesOf(f), turned, turnCode, scaled, scaleCode, impl.FluxText(f)}
}

func TestP1StringsAndNumbers(t *testing.T) {
	for _, s := range oddStrings() {
		for _, other := range []string{"", "1", "0110100", s} {
			for i, n := range oddNumbers() {
				m := oddNumbers()[(i+7)%len(oddNumbers())]
				if !reflect.DeepEqual(stage1Strings(s, other, n, m), stage1Strings(s, other, n, m)) {
					t.Errorf("other results for %.20q, %.20q, %d and %d", s, other, n, m)
				}
			}
		}
	}
}

func TestP1Fluxes(t *testing.T) {
	for i, f := range oddFluxes() {
		for _, n := range oddNumbers() {
			for _, m := range oddNumbers() {
				g := oddFluxes()[(i+1)%len(oddFluxes())]
				if !reflect.DeepEqual(stage1Fluxes(f, g, n, m), stage1Fluxes(f, g, n, m)) {
					t.Errorf("other results for flux %d, %d and %d", i, n, m)
				}
			}
		}
		is(t, "flux is unchanged", impl.SameFlux(f, oddFluxes()[i]), true)
	}
}

// roomy returns flux whose gaps have room behind them, and all of that room.
func roomy(f impl.Flux) (impl.Flux, []int64) {
	all := append(append([]int64{}, f.Gaps...), 77, 78, 79, 80)
	return impl.Flux{Cell: f.Cell, First: f.First, Gaps: all[:len(f.Gaps)]}, all
}

func TestP1ArgumentsAndTheirRoomAreUnchanged(t *testing.T) {
	for i, f := range oddFluxes() {
		full, all := roomy(f)
		before := append([]int64{}, all...)
		for _, n := range oddNumbers() {
			stage1Fluxes(full, full, n, 3)
			stage1Fluxes(full, full, 3, n)
		}
		is(t, "gaps of flux "+strconv.Itoa(i), all, before)
	}
}

func TestP1ResultsShareNoMemory(t *testing.T) {
	f, all := roomy(sampleFlux())
	before := append([]int64{}, all...)
	results := func() [][]int64 {
		turned, _ := impl.RotateFlux(f, 0)
		later, _ := impl.RotateFlux(f, 20)
		scaled, _ := impl.ScaleFlux(f, 1, 1)
		read, _ := impl.ReadFlux("10 15 10 20 40")
		made, _ := impl.FluxOf("0110100", 10)
		return [][]int64{turned.Gaps, later.Gaps, scaled.Gaps, read.Gaps, made.Gaps, impl.ChangesOf(f)}
	}
	first, second, want := results(), results(), results()
	for _, list := range first {
		list = list[:cap(list)]
		for i := range list {
			list[i] = -5
		}
	}
	is(t, "argument", all, before)
	is(t, "other results", second, want)
}

func TestP1NilAndEmptyAreAlike(t *testing.T) {
	empty, none := impl.Flux{Cell: 10, Gaps: []int64{}}, impl.Flux{Cell: 10}
	for _, n := range oddNumbers() {
		is(t, "results", stage1Fluxes(empty, none, n, 1), stage1Fluxes(none, empty, n, 1))
	}
}

func TestP1ErrorsComeAlone(t *testing.T) {
	zero := func(what string, failed bool, results ...any) {
		t.Helper()
		for _, r := range results {
			f, isFlux := r.(impl.Flux)
			if failed && !(isFlux && impl.SameFlux(f, impl.Flux{})) && !reflect.ValueOf(r).IsZero() {
				t.Errorf("%s: result with an error: %s", what, brief(r))
			}
		}
	}
	for _, s := range oddStrings() {
		for _, n := range oddNumbers() {
			r := stage1Strings(s, "011", n, n)
			zero("ReadHex", r[4] == false, r[3])
			zero("BytesOf", r[7] == false, r[6])
			zero("XorBytes", r[11] == false, r[10])
			zero("GetWord", r[14] == false, r[13])
			zero("FluxOf", r[17] != int64(impl.OK), r[16])
			zero("RotateCells", r[19] == false, r[18])
			zero("SpliceCells", r[21] != int64(impl.OK), r[20])
			zero("ReadFlux", r[23] == false, r[22])
		}
	}
	for _, f := range oddFluxes() {
		for _, n := range oddNumbers() {
			r := stage1Fluxes(f, f, n, 1)
			zero("RotateFlux", r[5] != int64(impl.OK), r[4])
			zero("ScaleFlux", r[7] != int64(impl.OK), r[6])
		}
	}
}

func TestP1CallsAtTheSameTime(t *testing.T) {
	var wait sync.WaitGroup
	got := make([]string, 8)
	for i := range got {
		wait.Go(func() {
			var out strings.Builder
			for start := range int64(50) {
				out.WriteString(strconv.FormatInt(impl.Crc16("123456789", start), 16))
			}
			got[i] = out.String()
		})
	}
	wait.Wait()
	for _, s := range got {
		is(t, "check values", s, got[0])
	}
}
