package tests

import (
	"math"
	"reflect"
	"slices"
	"strconv"
	"strings"
	"testing"

	"loop.example/g00899/impl"
)

// sectorOrder turns the sectors of each track, as the document's remainder does.
func sectorOrder(d impl.Disc, skew int64) []int64 {
	var order []int64
	for track := range d.Cylinders * d.Heads {
		sectors := upTo(int(d.PerTrack))
		for i := range sectors {
			sectors[i] += track * d.PerTrack
		}
		first := track * skew % d.PerTrack
		order = append(append(order, sectors[first:]...), sectors[:first]...)
	}
	return order
}

// device returns a device of a disc, with its blocks on any sectors.
func (s *source) device(d impl.Disc, skew, spare int64) impl.Device {
	sectors := upTo(len(d.Sectors))
	for i := range sectors {
		j := s.below(int64(i) + 1)
		sectors[i], sectors[j] = sectors[j], sectors[i]
	}
	return impl.Device{Disc: d, Skew: skew, Spare: spare, Map: slices.Clone(sectors[:int64(len(sectors))-spare])}
}

// anyDevice returns any device.
func (s *source) anyDevice() impl.Device {
	d := s.anyDisc()
	return s.device(d, s.below(8), s.below(int64(len(d.Sectors))))
}

// sampleDevice has 19 blocks on the 24 sectors of a disc, which are in all states.
func sampleDevice() impl.Device {
	from := source(260)
	return from.device(sampleDisc(), 3, 5)
}

// statesDevice has a block in each state, on a sector with a number, and four spare sectors.
func statesDevice() impl.Device {
	d, _ := impl.DiscOfData(2, 2, 2, 0, strings.Repeat("AAAAAAAABBBBBBBBCCCCCCCCDDDDDDDD", 2))
	for i := range d.Sectors {
		d.Sectors[i] = held(0, 1+int64(i)%4, d.Sectors[i].Data)
	}
	return impl.Device{Disc: d, Skew: 1, Spare: 4, Map: []int64{0, 1, 2, 3}}
}

// copiedDevice returns a device that shares no memory with d.
func copiedDevice(d impl.Device) impl.Device {
	d.Disc, d.Map = copied(d.Disc), slices.Clone(d.Map)
	return d
}

// noBlocks are numbers that are never those of blocks.
func noBlocks() []int64 {
	return []int64{-1, -2, 128, 129, 1 << 32, -1 << 32, math.MinInt64, math.MaxInt64}
}

// noSkews and noSpares are numbers that no disc has.
func noSkews() []int64 { return []int64{-1, 8, 9, 63, 256, 1 << 32, math.MinInt64, math.MaxInt64} }

func noSpares() []int64 { return []int64{-1, -2, 128, 129, 1 << 32, math.MinInt64, math.MaxInt64} }

// changedDevices are other devices than d, each in one field.
func changedDevices(d impl.Device) []impl.Device {
	var list []impl.Device
	with := func(change func(x *impl.Device)) {
		other := copiedDevice(d)
		change(&other)
		list = append(list, other)
	}
	for _, disc := range changedDiscs(d.Disc) {
		with(func(x *impl.Device) { x.Disc = disc })
	}
	with(func(x *impl.Device) { x.Skew++ })
	with(func(x *impl.Device) { x.Skew -= 4 })
	with(func(x *impl.Device) { x.Spare++ })
	with(func(x *impl.Device) { x.Spare-- })
	with(func(x *impl.Device) { x.Map = append(x.Map, 0) })
	if len(d.Map) == 0 {
		return list
	}
	with(func(x *impl.Device) { x.Map = nil })
	with(func(x *impl.Device) { x.Map = x.Map[1:] })
	with(func(x *impl.Device) { x.Map = x.Map[:len(x.Map)-1] })
	for i := range d.Map {
		with(func(x *impl.Device) { x.Map[i]++ })
		with(func(x *impl.Device) { x.Map[i] = -5 })
	}
	return list
}

// wrongMaps are lists that are no Map of d.
func wrongMaps(d impl.Device) [][]int64 {
	total, last := int64(len(d.Disc.Sectors)), len(d.Map)-1
	list := [][]int64{nil, d.Map[1:], d.Map[:last], append(slices.Clone(d.Map), d.Map[0]), append(slices.Clone(d.Map), -1), append(slices.Clone(d.Map), total), append(slices.Clone(d.Map), d.Map...)}
	for sector := range total {
		if !slices.Contains(d.Map, sector) {
			list = append(list, append(slices.Clone(d.Map), sector))
		}
	}
	for at := range d.Map {
		for _, sector := range []int64{-1, total, total + 1, 1 << 32, d.Map[at] + 1<<32, math.MinInt64, math.MaxInt64} {
			wrong := slices.Clone(d.Map)
			wrong[at] = sector
			list = append(list, wrong)
		}
		for other := range d.Map {
			if other != at {
				twice := slices.Clone(d.Map)
				twice[at] = d.Map[other]
				list = append(list, twice)
			}
		}
	}
	return list
}

// invalidDevices are devices of which one thing is wrong.
func invalidDevices() []impl.Device {
	var list []impl.Device
	for i, d := range invalidDiscs() {
		if i%3 == 0 || len(d.Sectors) == 24 {
			x := impl.Device{Disc: d, Skew: 3, Spare: 5, Map: sampleDevice().Map}
			list = append(list, x, impl.Device{Disc: d, Map: upTo(len(d.Sectors))})
		}
	}
	with := func(change func(x *impl.Device)) {
		wrong := sampleDevice()
		change(&wrong)
		list = append(list, wrong)
	}
	for _, skew := range noSkews() {
		with(func(x *impl.Device) { x.Skew = skew })
	}
	for _, spare := range append(noSpares(), 4, 6, 24, 25) {
		with(func(x *impl.Device) { x.Spare = spare })
		with(func(x *impl.Device) { x.Spare, x.Map = spare, nil })
		with(func(x *impl.Device) { x.Spare, x.Map = spare, upTo(24) })
	}
	with(func(x *impl.Device) { x.Spare, x.Map = -1, append(upTo(24), 0) })
	with(func(x *impl.Device) { x.Spare, x.Map = -1, upTo(25) })
	for _, wrong := range wrongMaps(sampleDevice()) {
		with(func(x *impl.Device) { x.Map = wrong })
	}
	return append(list, impl.Device{})
}

// someInvalidDevices are some of them, of all kinds.
func someInvalidDevices() []impl.Device {
	var list []impl.Device
	for i, d := range invalidDevices() {
		if i%5 == 0 {
			list = append(list, d)
		}
	}
	return append(list, impl.Device{})
}

// isNothing reports whether d is the zero value, of which the lists may be empty.
func isNothing(d impl.Device) bool {
	if len(d.Map) > 0 || len(d.Disc.Sectors) > 0 {
		return false
	}
	d.Map, d.Disc.Sectors = nil, nil
	return reflect.DeepEqual(d, impl.Device{})
}

// deviceIs requires a device, which is valid, and OK.
func deviceIs(t *testing.T, what string, got impl.Device, gotCode int64, want impl.Device) {
	t.Helper()
	code(t, what, gotCode, impl.OK)
	is(t, what, got, want)
	is(t, what+": valid", impl.ValidDevice(got), true)
}

// noDevice requires an error and no device.
func noDevice(t *testing.T, what string, got impl.Device, gotCode, want int64) {
	t.Helper()
	code(t, what, gotCode, want)
	is(t, what+": nothing else", isNothing(got), true)
}

// listIs compares two lists of numbers, of which both may be nil.
func listIs(t *testing.T, what string, got []int64, want ...int64) {
	t.Helper()
	if !slices.Equal(got, want) {
		t.Errorf("%q: got %v, want %v", what, got, want)
	}
}

func TestP16Constants(t *testing.T) {
	is(t, "limits", []int64{impl.MaxFile, impl.MaxFiles, impl.MaxSkew}, []int64{512, 16, 7})
}

func TestP16ValidDevices(t *testing.T) {
	from := source(261)
	for _, g := range geometries() {
		d := from.disc(g[0], g[1], g[2], g[3])
		total := int64(len(d.Sectors))
		for skew := range int64(8) {
			for _, spare := range []int64{0, total - 1, from.below(total)} {
				is(t, "valid", impl.ValidDevice(from.device(d, skew, spare)), true)
			}
			for _, spare := range []int64{total, total + 1, -1} {
				wrong := impl.Device{Disc: d, Skew: skew, Spare: spare, Map: upTo(int(max(0, total-spare)))}
				is(t, "as many spare sectors as there are", impl.ValidDevice(wrong), false)
			}
		}
		for _, skew := range noSkews() {
			is(t, "no skew", impl.ValidDevice(from.device(d, skew, 0)), false)
		}
	}
	for i, d := range invalidDevices() {
		is(t, "no device "+strconv.Itoa(i), impl.ValidDevice(d), false)
	}
}

func TestP16WrongMaps(t *testing.T) {
	from := source(262)
	for _, d := range []impl.Device{sampleDevice(), statesDevice(), from.device(from.disc(1, 1, 1, 0), 0, 0), from.device(from.disc(1, 2, 3, 1), 7, 0), from.device(from.disc(2, 2, 2, 2), 1, 7), from.device(from.disc(8, 2, 8, 0), 1, 100)} {
		is(t, "valid", impl.ValidDevice(d), true)
		for _, wrong := range wrongMaps(d) {
			d.Map = wrong
			is(t, "wrong map "+brief(wrong), impl.ValidDevice(d), false)
		}
	}
}

func TestP16SameDevices(t *testing.T) {
	for _, d := range append(someInvalidDevices(), sampleDevice(), statesDevice()) {
		is(t, "same", impl.SameDevice(d, copiedDevice(d)), true)
		for i, other := range changedDevices(d) {
			is(t, "other devices "+strconv.Itoa(i), []bool{impl.SameDevice(d, other), impl.SameDevice(other, d), impl.SameDevice(other, copiedDevice(other))}, []bool{false, false, true})
		}
	}
	is(t, "no map", impl.SameDevice(impl.Device{Skew: 1}, impl.Device{Skew: 1, Map: []int64{}}), true)
	is(t, "no sectors", impl.SameDevice(impl.Device{Spare: 1}, impl.Device{Spare: 1, Disc: impl.Disc{Sectors: []impl.Sector{}}}), true)
	is(t, "in another order", impl.SameDevice(impl.Device{Map: []int64{1, 2}}, impl.Device{Map: []int64{2, 1}}), false)
	is(t, "another number", impl.SameDevice(impl.Device{Skew: 1}, impl.Device{Spare: 1}), false)
}

func TestP16OrdersByHand(t *testing.T) {
	for _, r := range []struct {
		cylinders, heads, perTrack, skew, spare int64
		want                                    []int64
	}{
		{2, 1, 3, 1, 0, []int64{0, 1, 2, 4, 5, 3}},
		{1, 2, 3, 1, 0, []int64{0, 1, 2, 4, 5, 3}},
		{2, 1, 3, 1, 1, []int64{0, 1, 2, 4, 5}},
		{2, 1, 3, 1, 3, []int64{0, 1, 2}},
		{2, 1, 3, 1, 5, []int64{0}},
		{2, 1, 3, 0, 2, []int64{0, 1, 2, 3}},
		{3, 1, 4, 3, 0, []int64{0, 1, 2, 3, 7, 4, 5, 6, 10, 11, 8, 9}},
		{2, 2, 4, 1, 0, []int64{0, 1, 2, 3, 5, 6, 7, 4, 10, 11, 8, 9, 15, 12, 13, 14}},
		{2, 2, 4, 1, 6, []int64{0, 1, 2, 3, 5, 6, 7, 4, 10, 11}},
		{2, 1, 3, 7, 0, []int64{0, 1, 2, 4, 5, 3}},
		{3, 1, 3, 5, 1, []int64{0, 1, 2, 5, 3, 4, 7, 8}},
		{4, 1, 2, 5, 0, []int64{0, 1, 3, 2, 4, 5, 7, 6}},
		{2, 1, 8, 7, 0, []int64{0, 1, 2, 3, 4, 5, 6, 7, 15, 8, 9, 10, 11, 12, 13, 14}},
		{2, 1, 4, 4, 0, upTo(8)},
		{1, 1, 5, 3, 0, upTo(5)},
		{1, 1, 5, 3, 2, upTo(3)},
		{4, 2, 1, 7, 0, upTo(8)},
		{1, 1, 1, 7, 0, upTo(1)},
	} {
		disc, _ := impl.NewDisc(r.cylinders, r.heads, r.perTrack, 0)
		d, c := impl.NewDevice(disc, r.skew, r.spare)
		deviceIs(t, "order "+brief(r), d, c, impl.Device{Disc: disc, Skew: r.skew, Spare: r.spare, Map: r.want})
	}
}

func TestP16NewDevices(t *testing.T) {
	from := source(263)
	for _, g := range geometries() {
		disc := from.disc(g[0], g[1], g[2], g[3])
		before, total := copied(disc), int64(len(disc.Sectors))
		for skew := range int64(8) {
			order := sectorOrder(disc, skew)
			for _, spare := range []int64{0, min(1, total-1), total - 1, from.below(total)} {
				d, c := impl.NewDevice(disc, skew, spare)
				deviceIs(t, "new device", d, c, impl.Device{Disc: disc, Skew: skew, Spare: spare, Map: order[:total-spare]})
			}
			for _, spare := range append(noSpares(), total, total+1) {
				d, c := impl.NewDevice(disc, skew, spare)
				noDevice(t, "no such number of spare sectors", d, c, impl.ErrRange)
			}
		}
		for _, skew := range noSkews() {
			for _, spare := range []int64{0, total - 1, -1} {
				d, c := impl.NewDevice(disc, skew, spare)
				noDevice(t, "no such skew", d, c, impl.ErrRange)
			}
		}
		is(t, "argument", disc, before)
	}
	for _, disc := range invalidDiscs() {
		for _, r := range [][2]int64{{0, 0}, {3, 5}, {-1, 0}, {8, 0}, {0, -1}, {0, 24}, {math.MaxInt64, math.MinInt64}} {
			d, c := impl.NewDevice(disc, r[0], r[1])
			noDevice(t, "no disc", d, c, impl.ErrInvalid)
		}
	}
}

// The blocks of a track are all of its sectors, except the spare ones of the last tracks.
func TestP16BlocksOfATrackStayOnThisTrack(t *testing.T) {
	from := source(264)
	for _, g := range geometries() {
		disc := from.disc(g[0], g[1], g[2], g[3])
		for skew := range int64(8) {
			spare := from.below(int64(len(disc.Sectors)))
			d, _ := impl.NewDevice(disc, skew, spare)
			seen := map[int64]bool{}
			for block := range impl.DeviceBlocks(d) {
				sector, c := impl.SectorOf(d, block)
				is(t, "track", []int64{sector / g[2], c}, []int64{block / g[2], impl.OK})
				is(t, "another sector for each block", seen[sector], false)
				seen[sector] = true
			}
			is(t, "blocks", int64(len(seen)), int64(len(disc.Sectors))-spare)
		}
	}
}

func TestP16DeviceBlocks(t *testing.T) {
	from := source(265)
	for _, g := range geometries() {
		disc := from.disc(g[0], g[1], g[2], g[3])
		for spare := range int64(len(disc.Sectors)) {
			is(t, "blocks", impl.DeviceBlocks(from.device(disc, spare%8, spare)), g[0]*g[1]*g[2]-spare)
		}
	}
	for _, d := range invalidDevices() {
		is(t, "no device", impl.DeviceBlocks(d), int64(-1))
	}
}

func TestP16SectorOf(t *testing.T) {
	from := source(266)
	for range 300 {
		d := from.anyDevice()
		for block, want := range d.Map {
			sector, c := impl.SectorOf(d, int64(block))
			is(t, "sector", []int64{sector, c}, []int64{want, impl.OK})
		}
		for _, block := range append(noBlocks(), int64(len(d.Map)), int64(len(d.Map))+1) {
			sector, c := impl.SectorOf(d, block)
			is(t, "no block", []int64{sector, c}, []int64{0, impl.ErrRange})
		}
	}
	for _, d := range someInvalidDevices() {
		for _, block := range []int64{0, 3, -1, 19, 24, 128, math.MaxInt64} {
			sector, c := impl.SectorOf(d, block)
			is(t, "no device", []int64{sector, c}, []int64{0, impl.ErrInvalid})
		}
	}
}

func TestP16ReadBlocksInEachState(t *testing.T) {
	d := statesDevice()
	for block, want := range []struct {
		data string
		code int64
	}{{"AAAAAAAA", impl.OK}, {"", impl.ErrDamaged}, {"", impl.ErrDamaged}, {"DDDDDDDD", impl.OK}} {
		data, c := impl.ReadDeviceBlock(d, int64(block))
		is(t, "block "+strconv.Itoa(block), []any{data, c}, []any{want.data, want.code})
	}
	for _, r := range []struct{ block, code int64 }{{4, impl.ErrRange}, {5, impl.ErrRange}, {7, impl.ErrRange}, {8, impl.ErrRange}, {-1, impl.ErrRange}} {
		data, c := impl.ReadDeviceBlock(d, r.block)
		is(t, "no block", []any{data, c}, []any{"", r.code})
	}
}

func TestP16ReadBlocks(t *testing.T) {
	from := source(267)
	for range 300 {
		d := from.anyDevice()
		for block, sector := range d.Map {
			s := d.Disc.Sectors[sector]
			data, c := impl.ReadDeviceBlock(d, int64(block))
			if s.State == impl.SsBad || s.State == impl.SsMissing {
				is(t, "damaged", []any{data, c}, []any{"", int64(impl.ErrDamaged)})
			} else {
				is(t, "readable", []any{data, c}, []any{s.Data, int64(impl.OK)})
			}
		}
		for _, block := range append(noBlocks(), int64(len(d.Map)), int64(len(d.Map))+1) {
			data, c := impl.ReadDeviceBlock(d, block)
			is(t, "no block", []any{data, c}, []any{"", int64(impl.ErrRange)})
		}
	}
	for _, d := range someInvalidDevices() {
		for _, block := range []int64{0, 3, -1, 19, 24, math.MinInt64} {
			data, c := impl.ReadDeviceBlock(d, block)
			is(t, "no device", []any{data, c}, []any{"", int64(impl.ErrInvalid)})
		}
	}
}

// plainWritten follows the words of the document.
func plainWritten(d impl.Device, block int, data string) impl.Device {
	d = copiedDevice(d)
	d.Disc.Sectors[d.Map[block]] = impl.Sector{Data: data, State: impl.SsGood}
	return d
}

// A block is written whatever its sector was, and no other one changes.
func TestP16WrittenBlocks(t *testing.T) {
	from := source(268)
	for range 60 {
		d := from.anyDevice()
		before := copiedDevice(d)
		for block, sector := range d.Map {
			for _, state := range discStates() {
				old := copiedDevice(d)
				old.Disc.Sectors[sector] = held(d.Disc.Size, state, from.bytes(8<<d.Disc.Size))
				data := from.bytes(8 << d.Disc.Size)
				got, c := impl.WriteDeviceBlock(old, int64(block), data)
				deviceIs(t, "written", got, c, plainWritten(old, block, data))
				back, c := impl.ReadDeviceBlock(got, int64(block))
				is(t, "read back", []any{back, c}, []any{data, int64(impl.OK)})
			}
		}
		is(t, "argument", d, before)
	}
}

func TestP16OtherBlocksAreReadAsBefore(t *testing.T) {
	from := source(269)
	for range 40 {
		d := from.anyDevice()
		block := from.below(int64(len(d.Map)))
		got, c := impl.WriteDeviceBlock(d, block, from.bytes(8<<d.Disc.Size))
		code(t, "written", c, impl.OK)
		for other := range int64(len(d.Map)) {
			if other != block {
				want, wantCode := impl.ReadDeviceBlock(d, other)
				data, c := impl.ReadDeviceBlock(got, other)
				is(t, "another block", []any{data, c}, []any{want, wantCode})
			}
		}
	}
}

// The bytes of a block may be any, also those of a sector that is missing, and the same as before.
func TestP16WrittenBlocksByHand(t *testing.T) {
	zeros := strings.Repeat("\x00", 8)
	for block, data := range []string{"AAAAAAAA", "BBBBBBBB", zeros, "DDDDDDDD"} {
		for _, other := range []string{data, zeros, "\xff\xfe\xc0\x80\x00\x01\xff\xff"} {
			got, c := impl.WriteDeviceBlock(statesDevice(), int64(block), other)
			want := statesDevice()
			want.Disc.Sectors[block] = impl.Sector{Data: other, State: 1}
			deviceIs(t, "written", got, c, want)
		}
	}
}

// wrongData are strings of which none has as many bytes as a sector of a size.
func wrongData(size int64) []string {
	list := []string{"", "x", strings.Repeat("x", 64), strings.Repeat("x", 8<<size-1), strings.Repeat("x", 8<<size+1), strings.Repeat("x", 1<<16)}
	for other := range int64(3) {
		if other != size {
			list = append(list, strings.Repeat("x", 8<<other))
		}
	}
	return list
}

func TestP16NoBlocksToWrite(t *testing.T) {
	from := source(270)
	for range 100 {
		d := from.anyDevice()
		total := int64(len(d.Map))
		for _, block := range append(noBlocks(), total, total+1) {
			got, c := impl.WriteDeviceBlock(d, block, from.bytes(8<<d.Disc.Size))
			noDevice(t, "no block", got, c, impl.ErrRange)
		}
		for _, data := range wrongData(d.Disc.Size) {
			for _, block := range []int64{0, total - 1, total, -1, math.MaxInt64} {
				got, c := impl.WriteDeviceBlock(d, block, data)
				noDevice(t, "wrong data, whatever the block is", got, c, impl.ErrInvalid)
			}
		}
	}
	for _, d := range someInvalidDevices() {
		for _, block := range []int64{0, 18, 19, -1} {
			for _, data := range []string{"ABCDEFGH", "", strings.Repeat("x", 16), strings.Repeat("x", 32)} {
				got, c := impl.WriteDeviceBlock(d, block, data)
				noDevice(t, "no device", got, c, impl.ErrInvalid)
			}
		}
	}
}

// A block that would make an invalid device valid is not written.
func TestP16WritingMendsNothing(t *testing.T) {
	for _, s := range invalidSector(0) {
		d := sampleDevice()
		d.Disc.Sectors[d.Map[2]] = s
		got, c := impl.WriteDeviceBlock(d, 2, "ABCDEFGH")
		noDevice(t, "still no device", got, c, impl.ErrInvalid)
		got, c = impl.StoreBlocks(d, slices.Repeat([]string{"ABCDEFGH"}, 19))
		noDevice(t, "still no device", got, c, impl.ErrInvalid)
	}
}

// plainReplaced follows the words of the document.
func plainReplaced(d impl.Device, block int64) (impl.Device, int64) {
	for _, sector := range sectorOrder(d.Disc, d.Skew) {
		if slices.Contains(d.Map, sector) {
			continue
		}
		moved := copiedDevice(d)
		old := d.Disc.Sectors[d.Map[block]]
		moved.Disc.Sectors[sector] = impl.Sector{Data: old.Data, State: impl.SsGood}
		if old.State == impl.SsBad || old.State == impl.SsMissing {
			moved.Disc.Sectors[sector].Data = strings.Repeat("\x00", len(old.Data))
		}
		moved.Map[block] = sector
		return moved, impl.OK
	}
	return impl.Device{}, impl.ErrFull
}

// Sectors in each state are left, and those in each state moved to.
func TestP16ReplacedBlocksInEachState(t *testing.T) {
	zeros := strings.Repeat("\x00", 8)
	for block, data := range []string{"AAAAAAAA", zeros, zeros, "DDDDDDDD"} {
		for _, state := range discStates() {
			d := statesDevice()
			// On the track 2 with the skew 1 the sector 4 is again the first one.
			d.Disc.Sectors[4] = held(0, state, "12345678")
			want := copiedDevice(d)
			want.Disc.Sectors[4] = impl.Sector{Data: data, State: 1}
			want.Map[block] = 4
			got, c := impl.ReplaceBlock(d, int64(block))
			deviceIs(t, "replaced", got, c, want)
			back, c := impl.ReadDeviceBlock(got, int64(block))
			is(t, "read", []any{back, c}, []any{data, int64(impl.OK)})
		}
	}
}

func TestP16ReplacedBlocks(t *testing.T) {
	from := source(271)
	for range 150 {
		d := from.anyDevice()
		before := copiedDevice(d)
		for block := range int64(len(d.Map)) {
			got, c := impl.ReplaceBlock(d, block)
			want, wantCode := plainReplaced(d, block)
			if wantCode != impl.OK {
				noDevice(t, "no spare sector", got, c, wantCode)
			} else {
				deviceIs(t, "replaced", got, c, want)
			}
		}
		is(t, "argument", d, before)
	}
}

// Of several spare sectors the first one in the order of the disc is taken, which is not that of their indices. A sector that a block has left is spare again.
func TestP16SpareSectorsInTheOrderOfTheDisc(t *testing.T) {
	disc, _ := impl.DiscOfData(2, 1, 3, 0, "aaaaaaaabbbbbbbbccccccccddddddddeeeeeeeeffffffff")
	d, c := impl.NewDevice(disc, 1, 3)
	deviceIs(t, "new", d, c, impl.Device{Disc: disc, Skew: 1, Spare: 3, Map: []int64{0, 1, 2}})
	want := []string{"aaaaaaaa", "bbbbbbbb", "cccccccc", "dddddddd", "eeeeeeee", "ffffffff"}
	for i, r := range []struct {
		block, to int64
		data      string
		blocks    []int64
	}{
		{1, 4, "bbbbbbbb", []int64{0, 4, 2}},
		{2, 1, "cccccccc", []int64{0, 4, 1}},
		{0, 2, "aaaaaaaa", []int64{2, 4, 1}},
		{0, 0, "aaaaaaaa", []int64{0, 4, 1}},
		{1, 2, "bbbbbbbb", []int64{0, 2, 1}},
		{1, 4, "bbbbbbbb", []int64{0, 4, 1}},
		{1, 2, "bbbbbbbb", []int64{0, 2, 1}},
	} {
		d, c = impl.ReplaceBlock(d, r.block)
		want[r.to] = r.data
		code(t, "replaced", c, impl.OK)
		listIs(t, "step "+strconv.Itoa(i), d.Map, r.blocks...)
		is(t, "data", impl.DataOf(d.Disc), strings.Join(want, ""))
	}
	for _, r := range []struct{ skew, to int64 }{{0, 3}, {1, 4}, {2, 5}, {3, 3}, {4, 4}, {5, 5}, {6, 3}, {7, 4}} {
		d, c := impl.ReplaceBlock(impl.Device{Disc: disc, Skew: r.skew, Spare: 3, Map: []int64{2, 0, 1}}, 1)
		deviceIs(t, "skew", d, c, impl.Device{Disc: d.Disc, Skew: r.skew, Spare: 3, Map: []int64{2, r.to, 1}})
		is(t, "moved to", d.Disc.Sectors[r.to], impl.Sector{Data: "aaaaaaaa", State: 1})
	}
}

// With spare sectors blocks can be replaced again and again, and without any never.
func TestP16BlocksThatAreReplacedAgain(t *testing.T) {
	from := source(272)
	for _, r := range [][2]int64{{6, 0}, {6, 1}, {6, 2}, {6, 5}, {1, 0}, {2, 0}, {2, 1}} {
		disc := from.disc(1, 1, r[0], 1)
		d := from.device(disc, 0, r[1])
		for range 40 {
			block := from.below(int64(len(d.Map)))
			want, wantCode := plainReplaced(d, block)
			got, c := impl.ReplaceBlock(d, block)
			if r[1] == 0 {
				noDevice(t, "all sectors are in Map", got, c, impl.ErrFull)
				continue
			}
			code(t, "never full", wantCode, impl.OK)
			deviceIs(t, "again", got, c, want)
			d = got
		}
	}
	first, _ := impl.ReplaceBlock(statesDevice(), 0)
	second, c := impl.ReplaceBlock(first, 0)
	deviceIs(t, "twice", second, c, impl.Device{Disc: first.Disc, Skew: 1, Spare: 4, Map: []int64{0, 1, 2, 3}})
}

func TestP16NoBlocksToReplace(t *testing.T) {
	from := source(273)
	for range 200 {
		d := from.anyDevice()
		for _, spare := range []int64{0, d.Spare} {
			x := from.device(d.Disc, d.Skew, spare)
			for _, block := range append(noBlocks(), int64(len(x.Map)), int64(len(x.Map))+1) {
				got, c := impl.ReplaceBlock(x, block)
				noDevice(t, "no block, even if there are no spare sectors", got, c, impl.ErrRange)
			}
		}
		block := from.below(int64(len(d.Disc.Sectors)))
		got, c := impl.ReplaceBlock(from.device(d.Disc, d.Skew, 0), block)
		noDevice(t, "no spare sectors", got, c, impl.ErrFull)
	}
	for _, d := range someInvalidDevices() {
		for _, block := range []int64{0, 18, 19, -1} {
			got, c := impl.ReplaceBlock(d, block)
			noDevice(t, "no device", got, c, impl.ErrInvalid)
		}
	}
}

func TestP16AllBlocksInEachState(t *testing.T) {
	zeros := strings.Repeat("\x00", 8)
	d := statesDevice()
	list, lost, c := impl.AllBlocks(d)
	is(t, "all", []any{list, lost, c}, []any{[]string{"AAAAAAAA", zeros, zeros, "DDDDDDDD"}, []int64{1, 2}, int64(impl.OK)})
	d.Map = []int64{6, 7, 1, 0}
	list, lost, c = impl.AllBlocks(d)
	is(t, "in the order of the blocks", []any{list, lost, c}, []any{[]string{zeros, "DDDDDDDD", zeros, "AAAAAAAA"}, []int64{0, 2}, int64(impl.OK)})
	disc, _ := impl.NewDisc(1, 1, 3, 2)
	empty, _ := impl.NewDevice(disc, 0, 1)
	list, lost, c = impl.AllBlocks(empty)
	is(t, "none can be read", []any{list, lost, c}, []any{slices.Repeat([]string{strings.Repeat("\x00", 32)}, 2), []int64{0, 1}, int64(impl.OK)})
}

func TestP16AllBlocks(t *testing.T) {
	from := source(274)
	for range 300 {
		d := from.anyDevice()
		want, wantLost := []string{}, []int64{}
		for block, sector := range d.Map {
			s := d.Disc.Sectors[sector]
			if s.State == impl.SsBad || s.State == impl.SsMissing {
				s.Data = strings.Repeat("\x00", 8<<d.Disc.Size)
				wantLost = append(wantLost, int64(block))
			}
			want = append(want, s.Data)
		}
		list, lost, c := impl.AllBlocks(d)
		is(t, "all blocks", []any{list, c}, []any{want, int64(impl.OK)})
		listIs(t, "lost blocks", lost, wantLost...)
	}
	for _, d := range invalidDevices() {
		list, lost, c := impl.AllBlocks(d)
		is(t, "no device", []any{len(list), len(lost), c}, []any{0, 0, int64(impl.ErrInvalid)})
	}
}

// blocks returns contents for all blocks of a device.
func (s *source) blocks(d impl.Device) []string {
	list := []string{}
	for range d.Map {
		list = append(list, s.bytes(8<<d.Disc.Size))
	}
	return list
}

func TestP16StoredBlocks(t *testing.T) {
	from := source(275)
	for range 300 {
		d := from.anyDevice()
		before, list := copiedDevice(d), from.blocks(d)
		want := d
		for block, data := range list {
			want = plainWritten(want, block, data)
		}
		got, c := impl.StoreBlocks(d, list)
		deviceIs(t, "stored", got, c, want)
		again, lost, c := impl.AllBlocks(got)
		is(t, "read again", []any{again, len(lost), c}, []any{list, 0, int64(impl.OK)})
		is(t, "argument", d, before)
	}
}

func TestP16StoredBlocksByHand(t *testing.T) {
	got, c := impl.StoreBlocks(statesDevice(), []string{"00000000", "11111111", "22222222", "33333333"})
	want := statesDevice()
	for sector, data := range []string{"00000000", "11111111", "22222222", "33333333"} {
		want.Disc.Sectors[sector] = impl.Sector{Data: data, State: 1}
	}
	deviceIs(t, "spare sectors stay as they are", got, c, want)
}

func TestP16NoBlocksToStore(t *testing.T) {
	from := source(276)
	for range 60 {
		d := from.anyDevice()
		list := from.blocks(d)
		last := len(list) - 1
		for _, wrong := range [][]string{nil, {}, list[1:], list[:last], append(slices.Clone(list), list[0]), append(slices.Clone(list), ""), append(slices.Clone(list), list...), {strings.Join(list, "") + "x"}} {
			got, c := impl.StoreBlocks(d, wrong)
			noDevice(t, "too few or too many", got, c, impl.ErrFormat)
		}
		for _, data := range wrongData(d.Disc.Size) {
			for _, at := range []int{0, last / 2, last} {
				wrong := slices.Clone(list)
				wrong[at] = data
				got, c := impl.StoreBlocks(d, wrong)
				noDevice(t, "a wrong block", got, c, impl.ErrFormat)
			}
		}
	}
	got, c := impl.StoreBlocks(statesDevice(), []string{"0000000", "111111111", "22222222", "33333333"})
	noDevice(t, "as many bytes together", got, c, impl.ErrFormat)
	for _, d := range someInvalidDevices() {
		for _, list := range [][]string{nil, from.blocks(sampleDevice()), {"ABCDEFGH"}, {""}, from.blocks(d)} {
			got, c := impl.StoreBlocks(d, list)
			noDevice(t, "no device", got, c, impl.ErrInvalid)
		}
	}
}

// named returns files with names and without contents.
func named(names ...string) []impl.File {
	list := []impl.File{}
	for _, name := range names {
		list = append(list, impl.File{Name: name})
	}
	return list
}

// manyFiles returns valid files, with contents of all lengths.
func manyFiles(count int) []impl.File {
	from := source(277)
	list := []impl.File{}
	for i := range count {
		list = append(list, impl.File{Name: "F" + strings.Repeat("_", i%7) + string(rune('A'+i)), Data: from.bytes([]int{0, 1, 511, 512}[i%4])})
	}
	slices.SortFunc(list, func(a, b impl.File) int { return strings.Compare(a.Name, b.Name) })
	return list
}

func TestP16ValidFiles(t *testing.T) {
	for _, list := range [][]impl.File{nil, {}, named("A"), named("A", "B"), named("A", "A0", "A00", "A9", "AA", "AZ", "A_", "A_A", "B"), named("Z"), named("A_______"), named("ABCDEFGH", "ABCDEFGI"), named("Z99999_8", "Z99999_9")} {
		is(t, "valid "+brief(list), impl.ValidFiles(list), true)
	}
	for count := range 17 {
		is(t, "some files", impl.ValidFiles(manyFiles(count)), true)
	}
	for _, count := range []int{17, 18, 26} {
		is(t, "too many files", impl.ValidFiles(manyFiles(count)), false)
	}
	for _, names := range [][]string{{"A", "A"}, {"B", "A"}, {"AA", "A"}, {"AA", "A9"}, {"A_", "AA"}, {"A_", "AZ"}, {"A", "C", "B"}, {"A", "B", "B"}, {"A", "B", "A"}, {"B", "A", "C"}, {"A", "A", "B"}, {"A", "B", "C", "D", "E", "F", "G", "H", "I", "J", "K", "L", "M", "N", "O", "O"}} {
		is(t, "not rising "+brief(names), impl.ValidFiles(named(names...)), false)
	}
	is(t, "equal names, other contents", impl.ValidFiles([]impl.File{{Name: "A", Data: "1"}, {Name: "A", Data: "2"}}), false)
}

func TestP16NoNamesOfFiles(t *testing.T) {
	for _, name := range []string{"", "a", "0", "_", "_A", "9A", "ABCDEFGHI", "A B", "A-B", "Aa", " A", "A ", "A\x00", "\u00c4", "A\xff", strings.Repeat("A", 300)} {
		is(t, "alone", impl.ValidFiles(named(name)), false)
		for at := range 16 {
			list := manyFiles(16)
			list[at].Name = name
			is(t, "no name "+brief(name), impl.ValidFiles(list), false)
		}
		list := named("A", name)
		if name > "A" {
			is(t, "a rising one", impl.ValidFiles(list), false)
		}
	}
}

func TestP16ContentsOfFiles(t *testing.T) {
	for _, r := range []struct {
		count int
		ok    bool
	}{{0, true}, {1, true}, {8, true}, {511, true}, {512, true}, {513, false}, {514, false}, {1024, false}, {4096, false}, {1 << 16, false}} {
		for _, b := range []string{"x", "\x00", "\xff"} {
			data := strings.Repeat(b, r.count)
			is(t, "alone", impl.ValidFiles([]impl.File{{Name: "A", Data: data}}), r.ok)
			for at := range 16 {
				list := manyFiles(16)
				list[at].Data = data
				is(t, "bytes "+strconv.Itoa(r.count), impl.ValidFiles(list), r.ok)
			}
		}
	}
}
