package tests

import (
	"math"
	"slices"
	"strconv"
	"strings"
	"testing"

	"loop.example/g00899/impl"
)

// discStates are all states of sectors of discs.
func discStates() []int64 {
	return []int64{impl.SsGood, impl.SsBad, impl.SsMissing, impl.SsWeak}
}

// noStates are no states of sectors of discs.
func noStates() []int64 {
	return []int64{0, 5, -1, 6, 1<<32 + 1, math.MinInt64, math.MaxInt64}
}

// held returns a sector of a disc; one that is missing has no contents.
func held(size, state int64, data string) impl.Sector {
	if state == impl.SsMissing {
		data = strings.Repeat("\x00", 8<<size)
	}
	return impl.Sector{Data: data, State: state}
}

// disc returns a disc with sectors of all states.
func (s *source) disc(cylinders, heads, perTrack, size int64) impl.Disc {
	d := impl.Disc{Cylinders: cylinders, Heads: heads, PerTrack: perTrack, Size: size}
	for range cylinders * heads * perTrack {
		d.Sectors = append(d.Sectors, held(size, 1+s.below(4), s.bytes(8<<size)))
	}
	return d
}

// anyDisc returns a disc with any geometry.
func (s *source) anyDisc() impl.Disc {
	return s.disc(1+s.below(8), 1+s.below(2), 1+s.below(8), s.below(3))
}

// sampleDisc has 3 cylinders, 2 heads and 4 sectors on each track, of all states.
func sampleDisc() impl.Disc {
	from := source(180)
	d := from.disc(3, 2, 4, 0)
	for i := range d.Sectors {
		d.Sectors[i] = held(0, 1+int64(i)%4, from.bytes(8))
	}
	return d
}

// copied returns a disc that shares no memory with d.
func copied(d impl.Disc) impl.Disc {
	d.Sectors = slices.Clone(d.Sectors)
	return d
}

// geometries are all geometries of discs: cylinders, heads, sectors of a track, and size.
func geometries() [][4]int64 {
	var list [][4]int64
	for cylinders := int64(1); cylinders <= 8; cylinders++ {
		for heads := int64(1); heads <= 2; heads++ {
			for perTrack := int64(1); perTrack <= 8; perTrack++ {
				for size := range int64(3) {
					list = append(list, [4]int64{cylinders, heads, perTrack, size})
				}
			}
		}
	}
	return list
}

// noGeometries are geometries of which a number is wrong.
func noGeometries() [][4]int64 {
	list := [][4]int64{{}, {9, 3, 9, 3}, {1 << 32, 1 << 32, 1, 0}, {1 << 31, 1 << 31, 1 << 31, 60}, {-1, -1, 1, 0}, {-2, 1, -2, 0}}
	for _, base := range [][4]int64{{1, 1, 1, 0}, {8, 2, 8, 2}, {3, 2, 4, 1}} {
		for at, most := range []int64{8, 2, 8, 2} {
			for _, n := range []int64{-1, most + 1, most + 2, 60, 61, 63, 64, 255, 256, 1 << 32, 1<<32 + 1, math.MinInt64, math.MaxInt64} {
				wrong := base
				wrong[at] = n
				list = append(list, wrong)
			}
			if at < 3 {
				wrong := base
				wrong[at] = 0
				list = append(list, wrong)
			}
		}
	}
	return list
}

// changedDiscs are other discs than d, each in one place.
func changedDiscs(d impl.Disc) []impl.Disc {
	var list []impl.Disc
	with := func(change func(x *impl.Disc)) {
		other := copied(d)
		change(&other)
		list = append(list, other)
	}
	with(func(x *impl.Disc) { x.Cylinders++ })
	with(func(x *impl.Disc) { x.Heads-- })
	with(func(x *impl.Disc) { x.PerTrack++ })
	with(func(x *impl.Disc) { x.Size++ })
	with(func(x *impl.Disc) { x.Sectors = append(x.Sectors, held(0, impl.SsMissing, "")) })
	if len(d.Sectors) == 0 {
		return list
	}
	with(func(x *impl.Disc) { x.Sectors = nil })
	with(func(x *impl.Disc) { x.Sectors = x.Sectors[1:] })
	with(func(x *impl.Disc) { x.Sectors = x.Sectors[:len(x.Sectors)-1] })
	for i := range d.Sectors {
		with(func(x *impl.Disc) { x.Sectors[i].State++ })
		with(func(x *impl.Disc) { x.Sectors[i].Data += "x" })
		with(func(x *impl.Disc) { x.Sectors[i].Data = "1234567\xff" })
	}
	return list
}

// invalidSector returns sectors that are not valid on a disc of a size.
func invalidSector(size int64) []impl.Sector {
	count := 8 << size
	list := []impl.Sector{{}, {Data: strings.Repeat("x", count)}}
	for _, n := range noStates() {
		list = append(list, impl.Sector{Data: strings.Repeat("\x00", count), State: n})
	}
	for _, state := range discStates() {
		for _, n := range []int{0, 1, count - 1, count + 1, count / 2, 2 * count, 4 * count} {
			list = append(list, impl.Sector{Data: strings.Repeat("\x00", n), State: state})
		}
	}
	for at := range count {
		zeros := []byte(strings.Repeat("\x00", count))
		zeros[at] = 1
		list = append(list, impl.Sector{Data: string(zeros), State: impl.SsMissing})
	}
	return append(list, impl.Sector{Data: strings.Repeat("0", count), State: impl.SsMissing})
}

// invalidDiscs are discs of which one thing is wrong.
func invalidDiscs() []impl.Disc {
	d := sampleDisc()
	list := changedDiscs(d)[:8]
	for _, g := range noGeometries() {
		list = append(list, impl.Disc{Cylinders: g[0], Heads: g[1], PerTrack: g[2], Size: g[3]}, impl.Disc{Cylinders: g[0], Heads: g[1], PerTrack: g[2], Size: g[3], Sectors: d.Sectors}, impl.Disc{Cylinders: g[0], Heads: g[1], PerTrack: g[2], Size: g[3], Sectors: make([]impl.Sector, 1)})
	}
	for _, at := range []int{0, 1, len(d.Sectors) - 1} {
		for _, s := range invalidSector(0) {
			wrong := copied(d)
			wrong.Sectors[at] = s
			list = append(list, wrong)
		}
	}
	return append(list, impl.Disc{})
}

// discIs requires a disc, which is valid, and OK.
func discIs(t *testing.T, what string, got impl.Disc, gotCode int64, want impl.Disc) {
	t.Helper()
	code(t, what, gotCode, impl.OK)
	is(t, what, got, want)
	is(t, what+": valid", impl.ValidDisc(got), true)
}

// noDisc requires an error and no disc.
func noDisc(t *testing.T, what string, got impl.Disc, gotCode, want int64) {
	t.Helper()
	code(t, what, gotCode, want)
	is(t, what+": nothing else", got, impl.Disc{})
}

func TestP13Constants(t *testing.T) {
	is(t, "states", discStates(), []int64{1, 2, 3, 4})
	is(t, "limits", []int64{impl.MaxCylinders, impl.MaxHeads, impl.MaxPerTrack, impl.MaxBlocks}, []int64{8, 2, 8, 128})
}

func TestP13ValidDiscs(t *testing.T) {
	from := source(181)
	for _, g := range geometries() {
		d := from.disc(g[0], g[1], g[2], g[3])
		is(t, "valid "+brief(g), impl.ValidDisc(d), true)
		last := len(d.Sectors) - 1
		for _, state := range discStates() {
			d.Sectors[last] = held(g[3], state, strings.Repeat("\xff", 8<<g[3]))
			is(t, "any state", impl.ValidDisc(d), true)
			d.Sectors[last] = held(g[3], state, strings.Repeat("\x00", 8<<g[3]))
			is(t, "any state of zero bytes", impl.ValidDisc(d), true)
		}
		for _, s := range invalidSector(g[3]) {
			d.Sectors[last] = s
			is(t, "invalid sector "+brief(s), impl.ValidDisc(d), false)
		}
		d.Sectors = d.Sectors[:last]
		is(t, "a sector too few", impl.ValidDisc(d), false)
		d.Sectors = append(d.Sectors, held(g[3], 3, ""), held(g[3], 3, ""))
		is(t, "a sector too many", impl.ValidDisc(d), false)
	}
	for i, d := range invalidDiscs() {
		is(t, "no disc "+strconv.Itoa(i), impl.ValidDisc(d), false)
	}
}

func TestP13SameDiscs(t *testing.T) {
	for _, d := range append(invalidDiscs(), sampleDisc()) {
		is(t, "same", impl.SameDisc(d, copied(d)), true)
		for _, other := range changedDiscs(d) {
			is(t, "other discs", []bool{impl.SameDisc(d, other), impl.SameDisc(other, d), impl.SameDisc(other, copied(other))}, []bool{false, false, true})
		}
	}
	is(t, "no sectors", impl.SameDisc(impl.Disc{Size: 1}, impl.Disc{Size: 1, Sectors: []impl.Sector{}}), true)
	is(t, "in another order", impl.SameDisc(impl.Disc{Sectors: []impl.Sector{{State: 1}, {State: 2}}}, impl.Disc{Sectors: []impl.Sector{{State: 2}, {State: 1}}}), false)
	is(t, "another shape", impl.SameDisc(impl.Disc{Cylinders: 2, Heads: 1}, impl.Disc{Cylinders: 1, Heads: 2}), false)
}

func TestP13NewDiscs(t *testing.T) {
	for _, g := range geometries() {
		want := impl.Disc{Cylinders: g[0], Heads: g[1], PerTrack: g[2], Size: g[3]}
		for range g[0] * g[1] * g[2] {
			want.Sectors = append(want.Sectors, impl.Sector{Data: strings.Repeat("\x00", 8<<g[3]), State: 3})
		}
		d, c := impl.NewDisc(g[0], g[1], g[2], g[3])
		discIs(t, "new disc "+brief(g), d, c, want)
	}
	for _, g := range noGeometries() {
		d, c := impl.NewDisc(g[0], g[1], g[2], g[3])
		noDisc(t, "no geometry "+brief(g), d, c, impl.ErrRange)
	}
}

func TestP13SectorBytes(t *testing.T) {
	for size, want := range []int64{8, 16, 32} {
		is(t, "bytes", impl.SectorBytes(int64(size)), want)
	}
	for _, size := range []int64{-1, 3, 4, 8, 60, 61, 63, 64, 65, 1 << 32, -64, math.MinInt64, math.MaxInt64} {
		is(t, "no size", impl.SectorBytes(size), int64(0))
	}
}

func TestP13SectorAt(t *testing.T) {
	from := source(182)
	for _, g := range geometries() {
		d := from.disc(g[0], g[1], g[2], g[3])
		at := 0
		for cylinder := range g[0] {
			for head := range g[1] {
				for number := range g[2] {
					s, c := impl.SectorAt(d, cylinder, head, number)
					is(t, "sector "+strconv.Itoa(at), []any{s, c}, []any{d.Sectors[at], int64(impl.OK)})
					at++
				}
			}
		}
		for _, n := range []int64{-1, math.MinInt64, math.MaxInt64, 1 << 32, 8, 128} {
			for _, r := range [][3]int64{{n, 0, 0}, {0, n, 0}, {0, 0, n}, {g[0], 0, 0}, {0, g[1], 0}, {0, 0, g[2]}, {g[0] - 1, g[1] - 1, g[2]}, {-1, g[1], 0}, {1, 0, -1}, {1, -1, g[2] - 1}, {n, n, n}} {
				s, c := impl.SectorAt(d, r[0], r[1], r[2])
				is(t, "no sector", []any{s, c}, []any{impl.Sector{}, int64(impl.ErrRange)})
			}
		}
	}
	for _, d := range invalidDiscs() {
		for _, n := range []int64{0, -1, 9} {
			s, c := impl.SectorAt(d, n, n, n)
			is(t, "no disc", []any{s, c}, []any{impl.Sector{}, int64(impl.ErrInvalid)})
		}
	}
}

func TestP13PutSector(t *testing.T) {
	from := source(183)
	for range 60 {
		d := from.anyDisc()
		before := copied(d)
		for i, old := range d.Sectors {
			for _, state := range discStates() {
				s := held(d.Size, state, from.bytes(8<<d.Size))
				want := copied(d)
				want.Sectors[i] = s
				got, c := impl.PutSector(d, int64(i), s)
				discIs(t, "replaced", got, c, want)
				changed, c := impl.ChangedSectors(d, got)
				is(t, "the only one that changes", []any{len(changed) == 0, slices.Equal(changed, []int64{int64(i)}), c}, []any{s == old, s != old, int64(impl.OK)})
				back, c := impl.PutSector(got, int64(i), old)
				discIs(t, "and back", back, c, d)
			}
		}
		is(t, "argument", d, before)
	}
}

func TestP13NoSectorsToPut(t *testing.T) {
	from := source(184)
	for size := range int64(3) {
		d := from.disc(2, 2, 3, size)
		good := held(size, impl.SsGood, from.bytes(8<<size))
		for _, index := range []int64{-1, 12, 13, 128, 1 << 32, math.MinInt64, math.MaxInt64} {
			got, c := impl.PutSector(d, index, good)
			noDisc(t, "no such index", got, c, impl.ErrRange)
		}
		for _, s := range invalidSector(size) {
			for _, index := range []int64{0, 5, 11, 12, -1, math.MaxInt64} {
				got, c := impl.PutSector(d, index, s)
				noDisc(t, "no such sector "+brief(s), got, c, impl.ErrInvalid)
			}
		}
	}
	for _, d := range invalidDiscs() {
		for _, index := range []int64{0, -1, 24} {
			got, c := impl.PutSector(d, index, held(0, impl.SsGood, "ABCDEFGH"))
			noDisc(t, "no disc", got, c, impl.ErrInvalid)
			got, c = impl.PutSector(d, index, impl.Sector{})
			noDisc(t, "no disc and no sector", got, c, impl.ErrInvalid)
		}
	}
}

// A sector that makes an invalid disc valid is not put into it.
func TestP13PutSectorMendsNothing(t *testing.T) {
	d := sampleDisc()
	d.Sectors[7] = impl.Sector{}
	got, c := impl.PutSector(d, 7, held(0, impl.SsGood, "ABCDEFGH"))
	noDisc(t, "still no disc", got, c, impl.ErrInvalid)
}

// plainTrackOf follows the words of the document.
func plainTrackOf(d impl.Disc, track int64) impl.TrackSpec {
	spec := impl.TrackSpec{Format: impl.TfMfm, Gap: 4}
	for i, s := range d.Sectors {
		if int64(i)/d.PerTrack != track || s.State == impl.SsMissing {
			continue
		}
		spec.Sectors = append(spec.Sectors, impl.SectorSpec{Cylinder: track / d.Heads, Head: track % d.Heads, Number: int64(i)%d.PerTrack + 1, Size: d.Size, Data: s.Data, BadData: s.State == impl.SsBad})
	}
	return spec
}

func TestP13TrackOf(t *testing.T) {
	d := impl.Disc{Cylinders: 2, Heads: 2, PerTrack: 4}
	for i := range 16 {
		d.Sectors = append(d.Sectors, held(0, []int64{impl.SsGood, impl.SsBad, impl.SsMissing, impl.SsWeak}[i%4], strings.Repeat(string(rune('a'+i)), 8)))
	}
	got, c := impl.TrackOf(d, 3)
	is(t, "written out", []any{got, c}, []any{impl.TrackSpec{Format: impl.TfMfm, Gap: 4, Sectors: []impl.SectorSpec{{Cylinder: 1, Head: 1, Number: 1, Data: "mmmmmmmm"}, {Cylinder: 1, Head: 1, Number: 2, Data: "nnnnnnnn", BadData: true}, {Cylinder: 1, Head: 1, Number: 4, Data: "pppppppp"}}}, int64(impl.OK)})
	from := source(185)
	for _, g := range geometries() {
		d := from.disc(g[0], g[1], g[2], g[3])
		for track := range g[0] * g[1] {
			got, c := impl.TrackOf(d, track)
			is(t, "track", []any{impl.SameTrackSpec(got, plainTrackOf(d, track)), impl.ValidTrackSpec(got), c}, []any{true, true, int64(impl.OK)})
		}
		for _, track := range []int64{-1, g[0] * g[1], g[0]*g[1] + 1, 16, 128, 1 << 32, math.MinInt64, math.MaxInt64} {
			got, c := impl.TrackOf(d, track)
			is(t, "no track", []any{got, c}, []any{impl.TrackSpec{}, int64(impl.ErrRange)})
		}
	}
	empty, _ := impl.NewDisc(1, 1, 8, 2)
	got, c = impl.TrackOf(empty, 0)
	is(t, "all are missing", []any{impl.SameTrackSpec(got, impl.TrackSpec{Format: impl.TfMfm, Gap: 4}), c}, []any{true, int64(impl.OK)})
	for _, d := range invalidDiscs() {
		for _, track := range []int64{0, -1, 99} {
			got, c := impl.TrackOf(d, track)
			is(t, "no disc", []any{got, c}, []any{impl.TrackSpec{}, int64(impl.ErrInvalid)})
		}
	}
}

// The sectors of a track are restored from its cells. Weak sectors are written like good ones, and missing ones are not.
func TestP13TracksAreRestoredFromTheirCells(t *testing.T) {
	from := source(186)
	for _, g := range geometries() {
		if g[2]%3 > 0 && g[2] < 7 {
			continue
		}
		d := from.disc(g[0], g[1], g[2], g[3])
		got, _ := impl.NewDisc(g[0], g[1], g[2], g[3])
		want := copied(got)
		for track := range g[0] * g[1] {
			spec, c := impl.TrackOf(d, track)
			code(t, "track", c, impl.OK)
			cells := built(t, spec)
			list, c := impl.ReadTrack(turned(cells, int(from.below(int64(len(cells))))), impl.TfMfm)
			code(t, "read", c, impl.OK)
			for i, s := range d.Sectors[track*g[2] : (track+1)*g[2]] {
				if s.State == impl.SsWeak {
					s.State = impl.SsGood
				}
				want.Sectors[int(track*g[2])+i] = s
			}
			got, c = impl.FillTrack(got, track, list)
			discIs(t, "restored", got, c, want)
		}
	}
}

func TestP13TheLongestTrackIsBuilt(t *testing.T) {
	from := source(187)
	d, c := impl.DiscOfData(8, 2, 8, 2, from.bytes(4096))
	code(t, "the greatest disc", c, impl.OK)
	for track := range int64(16) {
		spec, _ := impl.TrackOf(d, track)
		is(t, "cells", len(built(t, spec)), 8*896+9*4*16)
	}
}

// plainFilled follows the words of the document.
func plainFilled(d impl.Disc, track int64, list []impl.Found) impl.Disc {
	d = copied(d)
	for _, f := range list {
		if f.Cylinder != track/d.Heads || f.Head != track%d.Heads || f.Size != d.Size || f.Number < 1 || f.Number > d.PerTrack {
			continue
		}
		old := &d.Sectors[track*d.PerTrack+f.Number-1]
		switch {
		case f.State == impl.StGood && (old.State == impl.SsMissing || old.State == impl.SsBad):
			*old = impl.Sector{Data: f.Data, State: impl.SsGood}
		case f.State == impl.StBadData && old.State == impl.SsMissing:
			*old = impl.Sector{Data: f.Data, State: impl.SsBad}
		}
	}
	return d
}

// Of all states of sectors and of what is found, only these three replace something.
func TestP13FoundSectorsReplaceStates(t *testing.T) {
	for _, deleted := range []bool{false, true} {
		for _, state := range discStates() {
			for _, f := range states(0) {
				if f.Data != "" {
					f.Deleted = deleted
				}
				d, _ := impl.NewDisc(4, 2, 3, 0)
				d.Sectors[22] = held(0, state, "ABCDEFGH")
				want := copied(d)
				switch {
				case f.State == impl.StGood && state == impl.SsMissing, f.State == impl.StGood && state == impl.SsBad:
					want.Sectors[22] = impl.Sector{Data: "xxxxxxxx", State: impl.SsGood}
				case f.State == impl.StBadData && state == impl.SsMissing:
					want.Sectors[22] = impl.Sector{Data: "xxxxxxxx", State: impl.SsBad}
				}
				got, c := impl.FillTrack(d, 7, []impl.Found{f})
				discIs(t, "found "+brief(f.State)+" for "+brief(state), got, c, want)
			}
		}
	}
}

// What is found is entered one after the other.
func TestP13FoundSectorsInOrder(t *testing.T) {
	good, other, bad, worse := goodData("GGGGGGGG"), goodData("gggggggg"), badData("BBBBBBBB"), badData("bbbbbbbb")
	is(t, "the numbers of these sectors", []int64{good.Cylinder, good.Head, good.Number, good.Size}, []int64{3, 1, 2, 0})
	empty, _ := impl.NewDisc(4, 2, 2, 0)
	for _, r := range []struct {
		list  []impl.Found
		data  string
		state int64
	}{
		{[]impl.Found{good, other}, "GGGGGGGG", impl.SsGood},
		{[]impl.Found{other, good, bad}, "gggggggg", impl.SsGood},
		{[]impl.Found{bad, worse}, "BBBBBBBB", impl.SsBad},
		{[]impl.Found{worse, bad, other, good}, "gggggggg", impl.SsGood},
		{[]impl.Found{bad, good, worse}, "GGGGGGGG", impl.SsGood},
		{[]impl.Found{good, bad}, "GGGGGGGG", impl.SsGood},
		{slices.Repeat([]impl.Found{bad}, impl.MaxMarks), "BBBBBBBB", impl.SsBad},
		{append(slices.Repeat([]impl.Found{bad}, impl.MaxMarks-1), good), "GGGGGGGG", impl.SsGood},
	} {
		want := copied(empty)
		want.Sectors[15] = impl.Sector{Data: r.data, State: r.state}
		got, c := impl.FillTrack(empty, 7, r.list)
		discIs(t, "one after the other", got, c, want)
	}
	got, c := impl.FillTrack(empty, 7, nil)
	discIs(t, "nothing is found", got, c, empty)
}

// Sectors of other tracks, of other sizes and with other numbers are left out.
func TestP13FoundSectorsOfOtherTracks(t *testing.T) {
	for _, r := range [][5]int64{{3, 1, 2, 0, 1}, {3, 0, 2, 0, 0}, {2, 1, 2, 0, 0}, {4, 1, 2, 0, 0}, {3, 2, 2, 0, 0}, {3, 3, 2, 0, 0}, {1, 3, 2, 0, 0}, {3, 1, 2, 1, 0}, {3, 1, 2, 2, 0}, {3, 1, 0, 0, 0}, {3, 1, 1, 0, 1}, {3, 1, 3, 0, 0}, {3, 1, 4, 0, 0}, {3, 1, 255, 0, 0}, {255, 255, 255, 0, 0}, {0, 7, 1, 0, 0}, {7, 0, 1, 0, 0}, {0, 0, 1, 0, 0}} {
		for _, state := range []int64{impl.StGood, impl.StBadData} {
			f := impl.Found{Cylinder: r[0], Head: r[1], Number: r[2], Size: r[3], Data: strings.Repeat("x", 8<<r[3]), State: state}
			d, _ := impl.NewDisc(5, 2, 2, 0)
			want := copied(d)
			if r[4] == 1 {
				want.Sectors[13+r[2]] = impl.Sector{Data: "xxxxxxxx", State: map[int64]int64{impl.StGood: impl.SsGood, impl.StBadData: impl.SsBad}[state]}
			}
			got, c := impl.FillTrack(d, 7, []impl.Found{f})
			discIs(t, "found "+brief(f), got, c, want)
		}
	}
}

func TestP13FillTrack(t *testing.T) {
	from := source(188)
	for range 500 {
		d := from.anyDisc()
		track := from.below(d.Cylinders * d.Heads)
		list := []impl.Found{}
		for range from.below(20) {
			f := impl.Found{Cylinder: track / d.Heads, Head: track % d.Heads, Number: from.below(d.PerTrack + 2), Size: d.Size, State: 1 + from.below(4), At: from.below(8000)}
			if from.below(6) == 0 {
				f.Cylinder, f.Head, f.Size = from.below(2), from.below(2), from.below(3)
			}
			if f.State == impl.StGood || f.State == impl.StBadData {
				f.Data, f.Deleted = from.bytes(8<<f.Size), from.below(2) == 0
			}
			list = append(list, f)
		}
		before := copied(d)
		got, c := impl.FillTrack(d, track, list)
		discIs(t, "filled", got, c, plainFilled(d, track, list))
		is(t, "argument", d, before)
	}
}

func TestP13NothingToFill(t *testing.T) {
	good := []impl.Found{goodSector()}
	for _, g := range geometries() {
		d, _ := impl.NewDisc(g[0], g[1], g[2], g[3])
		for _, track := range []int64{-1, g[0] * g[1], g[0]*g[1] + 1, 16, 1 << 32, math.MinInt64, math.MaxInt64} {
			got, c := impl.FillTrack(d, track, good)
			noDisc(t, "no track", got, c, impl.ErrRange)
		}
	}
	for _, d := range invalidDiscs() {
		for _, track := range []int64{0, -1, 99} {
			got, c := impl.FillTrack(d, track, good)
			noDisc(t, "no disc", got, c, impl.ErrInvalid)
		}
	}
	for _, f := range invalidFound() {
		for _, track := range []int64{0, 5, 6, -1} {
			got, c := impl.FillTrack(sampleDisc(), track, []impl.Found{goodSector(), f})
			noDisc(t, "no sector "+brief(f), got, c, impl.ErrInvalid)
			got, c = impl.FillTrack(sampleDisc(), track, []impl.Found{f, goodSector()})
			noDisc(t, "no sector, first "+brief(f), got, c, impl.ErrInvalid)
		}
	}
}

func TestP13StatesOf(t *testing.T) {
	from := source(189)
	for range 200 {
		d := from.anyDisc()
		want := make([]int64, 4)
		for _, s := range d.Sectors {
			want[s.State-1]++
		}
		is(t, "states", impl.StatesOf(d), want)
	}
	for _, g := range geometries() {
		d, _ := impl.NewDisc(g[0], g[1], g[2], g[3])
		is(t, "all are missing", impl.StatesOf(d), []int64{0, 0, g[0] * g[1] * g[2], 0})
	}
	for _, d := range invalidDiscs() {
		is(t, "no disc", len(impl.StatesOf(d)), 0)
	}
}

func TestP13ChangedSectors(t *testing.T) {
	from := source(190)
	for range 200 {
		a := from.anyDisc()
		b := copied(a)
		want := []int64{}
		for i, old := range b.Sectors {
			s := held(b.Size, 1+from.below(4), old.Data)
			if from.below(3) == 0 {
				s = held(b.Size, 1+from.below(4), from.bytes(8<<b.Size))
			}
			if from.below(2) == 0 && (s.Data != old.Data || s.State != old.State) {
				b.Sectors[i] = s
				want = append(want, int64(i))
			}
		}
		for _, pair := range [][2]impl.Disc{{a, b}, {b, a}} {
			got, c := impl.ChangedSectors(pair[0], pair[1])
			is(t, "changed", []any{slices.Equal(got, want), c}, []any{true, int64(impl.OK)})
		}
	}
	d := sampleDisc()
	e := copied(d)
	e.Sectors[0].State, e.Sectors[23] = impl.SsWeak, held(0, impl.SsWeak, "12345678")
	got, c := impl.ChangedSectors(d, e)
	is(t, "in the State or in Data", []any{got, c}, []any{[]int64{0, 23}, int64(impl.OK)})
}

func TestP13NoChangedSectors(t *testing.T) {
	from := source(191)
	fails := func(what string, a, b impl.Disc, want int64) {
		t.Helper()
		got, c := impl.ChangedSectors(a, b)
		is(t, what, []any{len(got), c}, []any{0, want})
	}
	for _, d := range invalidDiscs() {
		fails("the first one is invalid", d, sampleDisc(), impl.ErrInvalid)
		fails("the second one is invalid", sampleDisc(), d, impl.ErrInvalid)
		fails("both are invalid", d, d, impl.ErrInvalid)
		fails("invalid, and with another geometry", from.disc(1, 1, 1, 2), d, impl.ErrInvalid)
	}
	for _, g := range [][4]int64{{3, 2, 4, 1}, {3, 2, 5, 0}, {3, 1, 4, 0}, {4, 2, 4, 0}, {6, 1, 4, 0}, {6, 2, 2, 0}, {4, 2, 3, 0}, {3, 1, 8, 0}} {
		d := from.disc(g[0], g[1], g[2], g[3])
		fails("another geometry", sampleDisc(), d, impl.ErrState)
		fails("another geometry", d, sampleDisc(), impl.ErrState)
	}
}

func TestP13DataOfDiscs(t *testing.T) {
	from := source(192)
	for _, g := range geometries() {
		total := int(g[0] * g[1] * g[2] * (8 << g[3]))
		data := from.bytes(total)
		want := impl.Disc{Cylinders: g[0], Heads: g[1], PerTrack: g[2], Size: g[3]}
		for at := 0; at < total; at += 8 << g[3] {
			want.Sectors = append(want.Sectors, impl.Sector{Data: data[at : at+8<<g[3]], State: impl.SsGood})
		}
		d, c := impl.DiscOfData(g[0], g[1], g[2], g[3], data)
		discIs(t, "disc of data", d, c, want)
		is(t, "and data of the disc", impl.DataOf(d) == data, true)
		for _, wrong := range []string{"", data[1:], data + "x", data[:8<<g[3]/2], data + data} {
			d, c := impl.DiscOfData(g[0], g[1], g[2], g[3], wrong)
			noDisc(t, "other data", d, c, impl.ErrFormat)
		}
	}
	for _, g := range noGeometries() {
		for _, data := range []string{"", "ABCDEFGH", strings.Repeat("x", 4096), strings.Repeat("x", 1<<16)} {
			d, c := impl.DiscOfData(g[0], g[1], g[2], g[3], data)
			noDisc(t, "no geometry", d, c, impl.ErrRange)
		}
	}
}

// The data of a disc are those of all its sectors, whatever their states are.
func TestP13DataOfAllStates(t *testing.T) {
	from := source(193)
	for range 100 {
		d := from.anyDisc()
		want := ""
		for _, s := range d.Sectors {
			want += s.Data
		}
		is(t, "data", impl.DataOf(d) == want, true)
	}
	for _, d := range invalidDiscs() {
		is(t, "no disc", impl.DataOf(d), "")
	}
}
