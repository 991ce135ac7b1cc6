package tests

import (
	"math"
	"slices"
	"strconv"
	"strings"
	"testing"

	"loop.example/g00899/impl"
)

// chunkBytes returns the bytes of a chunk of any kind.
func chunkBytes(kind int, data string) string {
	s := string([]byte{byte(kind), byte(len(data) / 256), byte(len(data))}) + data
	check := plainCheck(s, 65535)
	return s + string([]byte{byte(check / 256), byte(check)})
}

// header returns the CkHeader of a disc.
func header(cylinders, heads, perTrack, size int64) string {
	return chunkBytes(1, "PI\x01"+string([]byte{byte(cylinders), byte(heads), byte(perTrack), byte(size)}))
}

// plainBytes returns the bytes of sectors before they are packed.
func plainBytes(list []impl.Sector) string {
	out := ""
	for _, s := range list {
		out += string([]byte{byte(s.State)}) + s.Data
	}
	return out
}

// trackChunk returns the CkTrack with a number and some sectors.
func trackChunk(track int64, list []impl.Sector) string {
	return chunkBytes(2, string([]byte{byte(track)})+plainPacked(plainBytes(list)))
}

func noteChunk(s string) string { return chunkBytes(3, s) }

func endOfContainer() string { return chunkBytes(4, "") }

// onTrack returns the sectors of a track of a disc.
func onTrack(d impl.Disc, track int64) []impl.Sector {
	return d.Sectors[track*d.PerTrack : (track+1)*d.PerTrack]
}

// plainContainer returns the chunks of an image.
func plainContainer(x impl.Image) []string {
	d := x.Disc
	list := []string{header(d.Cylinders, d.Heads, d.PerTrack, d.Size)}
	for track := range d.Cylinders * d.Heads {
		sectors := onTrack(d, track)
		if slices.ContainsFunc(sectors, func(s impl.Sector) bool { return s.State != 3 }) {
			list = append(list, trackChunk(track, sectors))
		}
	}
	for _, note := range x.Notes {
		list = append(list, noteChunk(note))
	}
	return append(list, endOfContainer())
}

func joined(list ...string) string { return strings.Join(list, "") }

// plainChunk returns the chunk with whose bytes s begins, and their number, or 0.
func plainChunk(s string) (impl.Chunk, int) {
	if len(s) < 5 || s[0] < 1 || s[0] > 4 {
		return impl.Chunk{}, 0
	}
	count := int(s[1])*256 + int(s[2])
	if count > 8192 || len(s) < count+5 || chunkBytes(int(s[0]), s[3:3+count]) != s[:count+5] {
		return impl.Chunk{}, 0
	}
	return impl.Chunk{Kind: int64(s[0]), Data: s[3 : 3+count]}, count + 5
}

// plainChunks returns the chunks at the beginning.
func plainChunks(s string) ([]impl.Chunk, int) {
	var list []impl.Chunk
	at := 0
	for len(list) < 40 {
		c, count := plainChunk(s[at:])
		if count == 0 {
			break
		}
		list = append(list, c)
		at += count
	}
	return list, at
}

// plainHeader returns the image without contents that a chunk describes.
func plainHeader(c impl.Chunk) (impl.Image, bool) {
	if c.Kind != 1 || len(c.Data) != 7 || c.Data[:3] != "PI\x01" {
		return impl.Image{}, false
	}
	g := []int64{int64(c.Data[3]), int64(c.Data[4]), int64(c.Data[5]), int64(c.Data[6])}
	if g[0] < 1 || g[0] > 8 || g[1] < 1 || g[1] > 2 || g[2] < 1 || g[2] > 8 || g[3] > 2 {
		return impl.Image{}, false
	}
	d := impl.Disc{Cylinders: g[0], Heads: g[1], PerTrack: g[2], Size: g[3]}
	for range g[0] * g[1] * g[2] {
		d.Sectors = append(d.Sectors, held(g[3], 3, ""))
	}
	return impl.Image{Disc: d}, true
}

func plainNote(s string) bool {
	for i := range len(s) {
		if s[i] < 32 || s[i] > 126 {
			return false
		}
	}
	return len(s) >= 1 && len(s) <= 40
}

// plainEntered enters a chunk into an image, and reports whether it is as described.
func plainEntered(x *impl.Image, c impl.Chunk) bool {
	if c.Kind == 3 && plainNote(c.Data) && len(x.Notes) < 8 {
		x.Notes = append(x.Notes, c.Data)
		return true
	}
	if c.Kind != 2 || c.Data == "" || int64(c.Data[0]) >= x.Disc.Cylinders*x.Disc.Heads {
		return false
	}
	plain, ok := plainUnpacked(c.Data[1:])
	each := 1 + 8<<x.Disc.Size
	if !ok || len(plain) != each*int(x.Disc.PerTrack) {
		return false
	}
	var list []impl.Sector
	for ; plain != ""; plain = plain[each:] {
		s := impl.Sector{State: int64(plain[0]), Data: plain[1:each]}
		if s.State < 1 || s.State > 4 || s.State == 3 && strings.Trim(s.Data, "\x00") != "" {
			return false
		}
		list = append(list, s)
	}
	copy(onTrack(x.Disc, int64(c.Data[0])), list)
	return true
}

// plainDecoded follows the words of the document.
func plainDecoded(s string) (impl.Image, int64) {
	if len(s) > 8192 {
		return impl.Image{}, impl.ErrFull
	}
	chunks, count := plainChunks(s)
	if count < len(s) {
		return impl.Image{}, impl.ErrChecksum
	}
	if len(chunks) < 2 || chunks[len(chunks)-1] != (impl.Chunk{Kind: 4}) {
		return impl.Image{}, impl.ErrFormat
	}
	x, ok := plainHeader(chunks[0])
	for _, c := range chunks[1 : len(chunks)-1] {
		ok = ok && plainEntered(&x, c)
	}
	if !ok {
		return impl.Image{}, impl.ErrFormat
	}
	return x, impl.OK
}

// plainSalvaged follows the words of the document.
func plainSalvaged(s string) (impl.Image, int64, int64) {
	if len(s) > 8192 {
		return impl.Image{}, 0, impl.ErrFull
	}
	var chunks []impl.Chunk
	skipped := int64(0)
	for at := 0; at < len(s); {
		c, count := plainChunk(s[at:])
		if count > 0 {
			chunks = append(chunks, c)
			at += count
		} else {
			skipped++
			at++
		}
	}
	for _, c := range chunks {
		if x, ok := plainHeader(c); ok {
			for _, c := range chunks {
				plainEntered(&x, c)
			}
			return x, skipped, impl.OK
		}
	}
	return impl.Image{}, 0, impl.ErrNotFound
}

// note returns a note of a length.
func (s *source) note(count int) string {
	out := make([]byte, count)
	for i := range out {
		out[i] = byte(32 + s.below(95))
	}
	return string(out)
}

// image returns an image with any disc, of which some tracks are missing, and some notes.
func (s *source) image() impl.Image {
	x := impl.Image{Disc: s.anyDisc()}
	for track := range x.Disc.Cylinders * x.Disc.Heads {
		if s.below(3) == 0 {
			for i := range onTrack(x.Disc, track) {
				onTrack(x.Disc, track)[i] = held(x.Disc.Size, 3, "")
			}
		}
	}
	for range s.below(9) {
		x.Notes = append(x.Notes, s.note(1+int(s.below(40))))
	}
	return x
}

// sampleImage has 4 tracks of 2 sectors, of which track 2 is missing, and 2 notes.
func sampleImage() impl.Image {
	from := source(230)
	d := from.disc(2, 2, 2, 0)
	for i := range d.Sectors {
		d.Sectors[i] = held(0, []int64{1, 2, 4, 3, 3, 3, 1, 1}[i], from.bytes(8))
	}
	return impl.Image{Disc: d, Notes: []string{"side A", "a second note"}}
}

// emptyImage returns an image of which nothing is known.
func emptyImage(cylinders, heads, perTrack, size int64) impl.Image {
	d, _ := impl.NewDisc(cylinders, heads, perTrack, size)
	return impl.Image{Disc: d}
}

// copiedImage returns an image that shares no memory with x.
func copiedImage(x impl.Image) impl.Image {
	return impl.Image{Disc: copied(x.Disc), Notes: slices.Clone(x.Notes)}
}

// imageIs requires an image, which is valid, and OK.
func imageIs(t *testing.T, what string, got impl.Image, gotCode int64, want impl.Image) {
	t.Helper()
	code(t, what, gotCode, impl.OK)
	is(t, what, got.Disc, want.Disc)
	is(t, what+": notes", append([]string{}, got.Notes...), append([]string{}, want.Notes...))
	is(t, what+": valid", []bool{impl.ValidImage(got), impl.SameImage(got, want)}, []bool{true, true})
}

// decodes requires the image of a container.
func decodes(t *testing.T, what, s string, want impl.Image) {
	t.Helper()
	x, c := impl.DecodeImage(s)
	imageIs(t, what, x, c, want)
}

// noContainer requires an error of all functions that read a container.
func noContainer(t *testing.T, what, s string, want int64) {
	t.Helper()
	x, c := impl.DecodeImage(s)
	code(t, what, c, want)
	is(t, what+": no image", impl.SameImage(x, impl.Image{}), true)
	compact, c := impl.CompactContainer(s)
	is(t, what+": not compact", []any{compact, c}, []any{"", want})
	longer, c := impl.AppendTrack(s, sampleDisc(), 99)
	is(t, what+": not longer", []any{longer, c}, []any{"", want})
}

// salvages requires what is found in any string.
func salvages(t *testing.T, what, s string, want impl.Image, wantSkipped int64) {
	t.Helper()
	x, skipped, c := impl.SalvageImage(s)
	imageIs(t, what, x, c, want)
	is(t, what+": skipped", skipped, wantSkipped)
}

// noSalvage requires an error and nothing else.
func noSalvage(t *testing.T, what, s string, want int64) {
	t.Helper()
	x, skipped, c := impl.SalvageImage(s)
	code(t, what, c, want)
	is(t, what+": nothing else", []any{impl.SameImage(x, impl.Image{}), skipped}, []any{true, int64(0)})
}

// readsAs requires that a string is read as the document says, whatever it is, and returns the code of DecodeImage.
func readsAs(t *testing.T, what, s string) int64 {
	t.Helper()
	chunks, count := plainChunks(s)
	gotChunks, gotCount := impl.DecodeChunks(s)
	if !slices.Equal(gotChunks, chunks) || gotCount != int64(count) {
		t.Errorf("%s: got %d chunks of %d bytes, want %d of %d", what, len(gotChunks), gotCount, len(chunks), count)
	}
	want, wantCode := plainDecoded(s)
	if wantCode == impl.OK {
		decodes(t, what, s, want)
	} else {
		noContainer(t, what, s, wantCode)
	}
	want, skipped, salvageCode := plainSalvaged(s)
	if salvageCode == impl.OK {
		salvages(t, what+", salvaged", s, want, skipped)
	} else {
		noSalvage(t, what+", salvaged", s, salvageCode)
	}
	return wantCode
}

// noKinds are kinds that no chunk has.
func noKinds() []int64 {
	return []int64{0, 5, 6, -1, 255, 256, 257, 260, 1<<32 + 1, math.MinInt64, math.MaxInt64}
}

func TestP14Constants(t *testing.T) {
	is(t, "kinds", []int64{impl.CkHeader, impl.CkTrack, impl.CkNote, impl.CkEnd}, []int64{1, 2, 3, 4})
	is(t, "limits", []int64{impl.MaxChunks, impl.MaxContainer, impl.MaxNotes, impl.MaxNote}, []int64{40, 8192, 8, 40})
}

func TestP14ChunksByHand(t *testing.T) {
	for want, c := range map[string]impl.Chunk{
		"040000105c":               {Kind: impl.CkEnd},
		"03000568656c6c6f7928":     {Kind: impl.CkNote, Data: "hello"},
		"0300067369646520411374":   {Kind: impl.CkNote, Data: "side A"},
		"01000750490102010100c239": {Kind: impl.CkHeader, Data: "PI\x01\x02\x01\x01\x00"},
	} {
		is(t, "bytes", impl.HexText(impl.EncodeChunk(c)), want)
	}
}

func TestP14Chunks(t *testing.T) {
	from := source(231)
	for _, count := range []int{0, 1, 2, 3, 255, 256, 257, 511, 4092, 4093, 4094, 4095, 4096, 4097, 8191, 8192} {
		for kind := int64(1); kind <= 4; kind++ {
			for _, data := range []string{from.bytes(count), strings.Repeat("\x00", count)} {
				c := impl.Chunk{Kind: kind, Data: data}
				is(t, "valid", impl.ValidChunk(c), true)
				s := impl.EncodeChunk(c)
				is(t, "bytes", s, chunkBytes(int(kind), data))
				for _, behind := range []string{"", "\x00", "x", s[:len(s)-1]} {
					list, occupied := impl.DecodeChunks(s + behind)
					is(t, "decoded", []any{list, occupied}, []any{[]impl.Chunk{c}, int64(len(s))})
				}
			}
		}
		for _, kind := range noKinds() {
			c := impl.Chunk{Kind: kind, Data: from.bytes(count)}
			is(t, "no kind", []any{impl.ValidChunk(c), impl.EncodeChunk(c)}, []any{false, ""})
		}
	}
	for _, count := range []int{8193, 8194, 65535, 65536, 65537, 73728} {
		for _, kind := range append(noKinds(), 1, 2, 3, 4) {
			c := impl.Chunk{Kind: kind, Data: strings.Repeat("\x00", count)}
			is(t, "too many bytes", []any{impl.ValidChunk(c), impl.EncodeChunk(c)}, []any{false, ""})
		}
	}
}

// noChunks requires that none begins a string.
func noChunks(t *testing.T, what, s string) {
	t.Helper()
	list, occupied := impl.DecodeChunks(s)
	is(t, what, []any{len(list), occupied}, []any{0, int64(0)})
}

func TestP14NoChunks(t *testing.T) {
	noChunks(t, "nothing", "")
	for _, kind := range []int{0, 5, 6, 128, 129, 255} {
		noChunks(t, "no kind", chunkBytes(kind, "abc"))
	}
	noChunks(t, "more than MaxContainer bytes", chunkBytes(3, strings.Repeat("x", 8193)))
	noChunks(t, "as many bytes as a word can tell", chunkBytes(3, strings.Repeat("x", 65535)))
	s := chunkBytes(3, "a note")
	for count := range len(s) {
		noChunks(t, "cut off", s[:count])
	}
	for at := range len(s) {
		for more := 1; more < 256; more++ {
			changed := []byte(s)
			changed[at] ^= byte(more)
			noChunks(t, "changed", string(changed))
			noChunks(t, "changed, with bytes behind it", string(changed)+strings.Repeat("\x00", 300))
		}
	}
	end := endOfContainer()
	for count := range len(end) {
		noChunks(t, "without data, cut off", end[:count])
	}
	noChunks(t, "a length beyond the end", "\x03\x00\x07"+s[3:])
	noChunks(t, "a length far beyond the end", "\x03\x20\x00"+s[3:])
	noChunks(t, "something before it", "x"+s)
	for _, start := range []int64{0, 1, 65534} {
		body := "\x03\x00\x02ab"
		check := plainCheck(body, start)
		noChunks(t, "a check value from another start", body+string([]byte{byte(check / 256), byte(check)}))
	}
}

func TestP14ListsOfChunks(t *testing.T) {
	from := source(232)
	var list []impl.Chunk
	s := ""
	for count := range 45 {
		wanted := slices.Clone(list[:min(count, 40)])
		occupied := 0
		for _, c := range wanted {
			occupied += len(c.Data) + 5
		}
		for _, behind := range []string{"", "\x04", "\x04\x00\x00\x10\x5b", "\x00\x04\x00\x00\x10\x5c"} {
			got, gotOccupied := impl.DecodeChunks(s + behind)
			is(t, "chunks", []any{append([]impl.Chunk{}, got...), gotOccupied}, []any{append([]impl.Chunk{}, wanted...), int64(occupied)})
		}
		c := impl.Chunk{Kind: 1 + from.below(4), Data: from.bytes(int(from.below(9)))}
		list = append(list, c)
		s += chunkBytes(int(c.Kind), c.Data)
	}
	// Longer than a container may be.
	big := strings.Repeat(chunkBytes(2, strings.Repeat("\xaa", 8192)), 41)
	got, occupied := impl.DecodeChunks(big)
	is(t, "longest chunks", []any{len(got), occupied}, []any{40, int64(40 * 8197)})
	// A chunk is lost with all that are behind it.
	for k := range 40 {
		at := 0
		for _, c := range list[:k] {
			at += len(c.Data) + 5
		}
		got, occupied := impl.DecodeChunks(s[:at] + "\x05" + s[at+1:])
		is(t, "chunks before a wrong one", []any{len(got), occupied}, []any{k, int64(at)})
	}
}

func TestP14ValidImages(t *testing.T) {
	from := source(233)
	for range 100 {
		is(t, "valid", impl.ValidImage(from.image()), true)
	}
	d := sampleDisc()
	withNotes := func(list ...string) bool { return impl.ValidImage(impl.Image{Disc: d, Notes: list}) }
	is(t, "without notes", withNotes(), true)
	is(t, "8 notes", withNotes(slices.Repeat([]string{"x"}, 8)...), true)
	is(t, "9 notes", withNotes(slices.Repeat([]string{"x"}, 9)...), false)
	for count, want := range map[int]bool{0: false, 1: true, 39: true, 40: true, 41: false, 42: false, 8192: false} {
		is(t, "a note of "+strconv.Itoa(count), []bool{withNotes(strings.Repeat("x", count)), withNotes("first", strings.Repeat("x", count))}, []bool{want, want})
	}
	for b := range 256 {
		want := b >= 32 && b <= 126
		is(t, "a byte of a note", []bool{withNotes(string([]byte{byte(b)})), withNotes("ab", "a"+string([]byte{byte(b)})+"c")}, []bool{want, want})
	}
	for _, note := range []string{"\u00e9", "\u0141", "\uff21", "\ufffd", "a\u0120", "\xc0\x80"} {
		is(t, "no bytes of notes", withNotes(note), false)
	}
	for _, wrong := range invalidDiscs() {
		is(t, "no disc", []bool{impl.ValidImage(impl.Image{Disc: wrong}), impl.ValidImage(impl.Image{Disc: wrong, Notes: []string{"x"}})}, []bool{false, false})
	}
}

// noImages are images of which one thing is wrong.
func noImages() []impl.Image {
	var list []impl.Image
	for _, d := range invalidDiscs() {
		list = append(list, impl.Image{Disc: d, Notes: []string{"a note"}})
	}
	for _, notes := range [][]string{{""}, {"a", ""}, {strings.Repeat("x", 41)}, {"a\x1f"}, {"\x7f"}, {"ok", "no\n"}, slices.Repeat([]string{"x"}, 9)} {
		list = append(list, impl.Image{Disc: sampleDisc(), Notes: notes})
	}
	return list
}

func TestP14SameImages(t *testing.T) {
	for _, x := range append(noImages(), sampleImage(), impl.Image{}) {
		is(t, "same", impl.SameImage(x, copiedImage(x)), true)
		others := []impl.Image{{Disc: x.Disc, Notes: append(slices.Clone(x.Notes), "more")}}
		for _, d := range changedDiscs(x.Disc) {
			others = append(others, impl.Image{Disc: d, Notes: x.Notes})
		}
		for i := range x.Notes {
			notes := slices.Clone(x.Notes)
			notes[i] += "x"
			others = append(others, impl.Image{Disc: x.Disc, Notes: notes}, impl.Image{Disc: x.Disc, Notes: x.Notes[:i]})
		}
		for _, other := range others {
			is(t, "others", []bool{impl.SameImage(x, other), impl.SameImage(other, x), impl.SameImage(other, copiedImage(other))}, []bool{false, false, true})
		}
	}
	a, b := impl.Image{Notes: []string{"a", "b"}}, impl.Image{Notes: []string{"b", "a"}}
	is(t, "in another order", impl.SameImage(a, b), false)
	is(t, "no notes", impl.SameImage(impl.Image{Disc: sampleDisc()}, impl.Image{Disc: sampleDisc(), Notes: []string{}}), true)
}

func TestP14ContainersByHand(t *testing.T) {
	d, _ := impl.NewDisc(2, 1, 1, 0)
	d, _ = impl.PutSector(d, 1, impl.Sector{Data: "ABCDEFGH", State: impl.SsWeak})
	x := impl.Image{Disc: d, Notes: []string{"hello"}}
	track := chunkBytes(2, "\x01\x08\x04ABCDEFGH")
	want := chunkBytes(1, "PI\x01\x02\x01\x01\x00") + track + chunkBytes(3, "hello") + chunkBytes(4, "")
	is(t, "container", impl.EncodeImage(x), want)
	decodes(t, "image", want, x)
	is(t, "nothing is known", impl.EncodeImage(emptyImage(8, 2, 8, 2)), header(8, 2, 8, 2)+endOfContainer())
	decodes(t, "nothing is known", header(8, 2, 8, 2)+endOfContainer(), emptyImage(8, 2, 8, 2))
}

func TestP14ImagesAreRestored(t *testing.T) {
	from := source(234)
	for i := range 300 {
		x := from.image()
		if i%10 == 0 {
			x.Disc = from.disc(8, 2, 8, 2)
		}
		s := impl.EncodeImage(x)
		is(t, "container", s, joined(plainContainer(x)...))
		is(t, "limits", len(s) <= impl.MaxContainer, true)
		decodes(t, "restored", s, x)
		salvages(t, "salvaged", s, x, 0)
		compact, c := impl.CompactContainer(s)
		is(t, "compact", []any{compact, c}, []any{s, int64(impl.OK)})
	}
	for _, g := range geometries() {
		x := impl.Image{Disc: from.disc(g[0], g[1], g[2], g[3])}
		decodes(t, "any geometry", impl.EncodeImage(x), x)
	}
	for _, x := range noImages() {
		is(t, "no image", impl.EncodeImage(x), "")
	}
}

func TestP14TracksWithoutChunks(t *testing.T) {
	for missing := range 8 {
		d := sampleDisc()
		for track := range int64(3) {
			for i := range onTrack(d, 2*track) {
				if missing>>track&1 == 1 {
					onTrack(d, 2*track)[i] = held(0, impl.SsMissing, "")
				}
			}
		}
		x := impl.Image{Disc: d}
		list := plainContainer(x)
		s := impl.EncodeImage(x)
		is(t, "container", s, joined(list...))
		chunks, _ := impl.DecodeChunks(s)
		is(t, "chunks", len(chunks), 8-[]int{0, 1, 1, 2, 1, 2, 2, 3}[missing])
		decodes(t, "restored", s, x)
	}
	// A track has a chunk if only one of its sectors, in any place and state, is not missing.
	for i := range int64(6) {
		for _, state := range []int64{impl.SsGood, impl.SsBad, impl.SsWeak} {
			d, _ := impl.NewDisc(2, 1, 3, 1)
			d, _ = impl.PutSector(d, i, held(1, state, strings.Repeat("\x00", 16)))
			s := impl.EncodeImage(impl.Image{Disc: d})
			is(t, "one track", s, header(2, 1, 3, 1)+trackChunk(i/3, onTrack(d, i/3))+endOfContainer())
			decodes(t, "restored", s, impl.Image{Disc: d})
		}
	}
}

func TestP14WellFormedContainers(t *testing.T) {
	x := sampleImage()
	d := x.Disc
	head, end := header(2, 2, 2, 0), endOfContainer()
	first, last := trackChunk(0, onTrack(d, 0)), trackChunk(3, onTrack(d, 3))
	newer := []impl.Sector{{Data: "12345678", State: impl.SsGood}, {Data: "abcdefgh", State: impl.SsBad}}
	image := func(tracks map[int64][]impl.Sector, notes ...string) impl.Image {
		d, _ := impl.NewDisc(2, 2, 2, 0)
		for track, list := range tracks {
			copy(onTrack(d, track), list)
		}
		return impl.Image{Disc: d, Notes: notes}
	}
	one, both := map[int64][]impl.Sector{0: onTrack(d, 0)}, map[int64][]impl.Sector{0: onTrack(d, 0), 3: onTrack(d, 3)}
	decodes(t, "in another order", joined(head, last, first, end), image(both))
	decodes(t, "notes between tracks", joined(head, noteChunk("a"), last, noteChunk("c"), first, noteChunk("b"), end), image(both, "a", "c", "b"))
	decodes(t, "only notes, also the same one", joined(head, noteChunk("a"), noteChunk("a"), end), image(nil, "a", "a"))
	decodes(t, "a track of missing sectors", joined(head, trackChunk(1, slices.Repeat([]impl.Sector{held(0, 3, "")}, 2)), end), image(nil))
	decodes(t, "the same track twice", joined(head, first, trackChunk(0, newer), end), image(map[int64][]impl.Sector{0: newer}))
	decodes(t, "and the other way", joined(head, trackChunk(0, newer), first, end), image(one))
	decodes(t, "also if it is missing then", joined(head, first, trackChunk(0, slices.Repeat([]impl.Sector{held(0, 3, "")}, 2)), end), image(nil))
	decodes(t, "three times", joined(head, first, trackChunk(0, newer), last, first, end), image(both))
	plain := plainBytes(onTrack(d, 0))
	for parts := 1; parts <= len(plain); parts++ {
		decodes(t, "packed in another way", joined(head, chunkBytes(2, "\x00"+loose(plain, parts)), end), image(one))
	}
	notes := strings.Split("abcdefgh", "")
	eight := ""
	for _, note := range notes {
		eight += noteChunk(note)
	}
	decodes(t, "8 notes", joined(head, first, eight, end), image(one, notes...))
	noContainer(t, "9 notes", joined(head, first, eight, noteChunk("i"), end), impl.ErrFormat)
	decodes(t, "38 tracks", head+strings.Repeat(first+last, 19)+end, image(both))
	noContainer(t, "39 tracks", head+strings.Repeat(first+last, 19)+first+end, impl.ErrChecksum)
}

// loose packs bytes that all stand for themselves, in so many parts.
func loose(s string, parts int) string {
	out := ""
	for ; parts > 0; parts-- {
		n := min(128, len(s)-parts+1)
		out += string([]byte{byte(n - 1)}) + s[:n]
		s = s[n:]
	}
	return out
}

func TestP14NotWellFormed(t *testing.T) {
	x := sampleImage()
	head, first, note, end := header(2, 2, 2, 0), trackChunk(0, onTrack(x.Disc, 0)), noteChunk("a"), endOfContainer()
	for what, list := range map[string][]string{
		"nothing": {}, "only a header": {head}, "only an end": {end}, "an end twice": {end, end}, "a header twice": {head, head},
		"no header": {first, note, end}, "a header that is not the first chunk": {first, head, end}, "at the end": {first, end, head}, "two headers": {head, head, first, end}, "two headers, not side by side": {head, first, head, end}, "another header": {head, header(1, 1, 1, 0), end},
		"no end": {head, first, note}, "an end that is not the last chunk": {head, end, first}, "two ends": {head, first, end, end}, "an end between tracks": {head, first, end, note, end},
		"an end with data": {head, first, chunkBytes(4, "x")}, "an end with a zero byte": {head, chunkBytes(4, "\x00")}, "two ends of which one has data": {head, chunkBytes(4, "x"), end},
	} {
		noContainer(t, what, joined(list...), impl.ErrFormat)
	}
	decodes(t, "this one is", joined(head, end), emptyImage(2, 2, 2, 0))
}

func TestP14HeadersOfNoDisc(t *testing.T) {
	wrong := []string{"", "P", "PI", "PI\x01", "PI\x01\x02\x02\x02", "PI\x01\x02\x02\x02\x00\x00", "PI\x01\x02\x02\x02\x00\x02", "\x02\x02\x02\x00", "PI\x02\x02\x02\x02\x00", "PI\x00\x02\x02\x02\x00", "PI1\x02\x02\x02\x00", "pi\x01\x02\x02\x02\x00", "IP\x01\x02\x02\x02\x00", "PJ\x01\x02\x02\x02\x00", "QI\x01\x02\x02\x02\x00", " PI\x01\x02\x02\x02\x00", "PI\x01\x02\x02\x02\x00" + strings.Repeat("\x00", 200)}
	for _, g := range noGeometries() {
		inBytes := true
		data := []byte("PI\x01")
		for _, n := range g {
			inBytes = inBytes && n >= 0 && n <= 255
			data = append(data, byte(n))
		}
		if inBytes {
			wrong = append(wrong, string(data))
		}
	}
	is(t, "several geometries", len(wrong) > 40, true)
	note, end := noteChunk("a"), endOfContainer()
	for _, data := range wrong {
		noContainer(t, "header "+strconv.Quote(data), chunkBytes(1, data)+note+end, impl.ErrFormat)
		noSalvage(t, "header "+strconv.Quote(data), chunkBytes(1, data)+note+end, impl.ErrNotFound)
		want := emptyImage(1, 1, 1, 0)
		want.Notes = []string{"a"}
		salvages(t, "and another one behind it", chunkBytes(1, data)+note+header(1, 1, 1, 0)+end, want, 0)
	}
}

func TestP14HeadersOfOtherKinds(t *testing.T) {
	list := plainContainer(sampleImage())
	for _, kind := range []int{impl.CkTrack, impl.CkNote, impl.CkEnd} {
		other := chunkBytes(kind, "PI\x01\x02\x02\x02\x00")
		noContainer(t, "no header", joined(other, joined(list[1:]...)), impl.ErrFormat)
		noSalvage(t, "no header", joined(other, joined(list[1:]...)), impl.ErrNotFound)
		salvages(t, "and one behind it", joined(other, joined(list[1:]...), list[0]), sampleImage(), 0)
	}
}

// wrongTracks are the Data of CkTracks that are not as described on a disc with 4 tracks of 2 sectors of 8 bytes.
func wrongTracks() map[string]string {
	good := "\x01ABCDEFGH\x04abcdefgh"
	list := map[string]string{
		"no track": "", "no sectors": "\x00", "no such track": "\x04" + plainPacked(good), "far from it": "\xff" + plainPacked(good),
		"a byte too few": "\x00" + plainPacked(good[:17]), "a byte too many": "\x00" + plainPacked(good+"\x00"), "a sector too few": "\x00" + plainPacked(good[:9]), "a sector too many": "\x00" + plainPacked(good+good[:9]), "sectors of another size": "\x00" + plainPacked("\x01"+strings.Repeat("x", 16)+"\x01"+strings.Repeat("x", 16)), "twice as many": "\x00" + plainPacked(good+good),
		"a part that is incomplete": "\x00" + plainPacked(good) + "\x00", "a reference beyond the beginning": "\x00\x80\x01", "a reference to nothing": "\x00\x00\x01\x80\x00", "not packed": "\x00" + good, "packed by runs": "\x00" + plainRuns(strings.Repeat("\x01\x01\x01\x01\x01\x01\x01\x01\x01", 2)),
		"a sector that is missing, with data": "\x00" + plainPacked("\x01ABCDEFGH\x03abcdefgh"), "with a single bit": "\x00" + plainPacked("\x01ABCDEFGH\x03\x00\x00\x00\x00\x00\x00\x00\x01"), "the first one": "\x00" + plainPacked("\x03\x80\x00\x00\x00\x00\x00\x00\x00\x01ABCDEFGH"), "more than MaxPlain bytes": "\x00\x00\x01" + strings.Repeat("\xff\x01", 32),
	}
	for _, state := range []int{0, 5, 6, 128, 129, 131, 255} {
		list["state "+strconv.Itoa(state)] = "\x00" + plainPacked("\x01ABCDEFGH"+string([]byte{byte(state)})+"abcdefgh")
		list["first state "+strconv.Itoa(state)] = "\x03" + plainPacked(string([]byte{byte(state)})+"\x00\x00\x00\x00\x00\x00\x00\x00\x01abcdefgh")
	}
	return list
}

func TestP14WrongTracks(t *testing.T) {
	x := sampleImage()
	list := plainContainer(x)
	for what, data := range wrongTracks() {
		wrong := chunkBytes(2, data)
		for k := 1; k < len(list); k++ {
			s := joined(slices.Insert(slices.Clone(list), k, wrong)...)
			noContainer(t, what, s, impl.ErrFormat)
			salvages(t, what, s, x, 0)
		}
	}
	for track := range int64(4) {
		data := []impl.Sector{{Data: "ABCDEFGH", State: 1}, {Data: "abcdefgh", State: 4}}
		want := copiedImage(x)
		copy(onTrack(want.Disc, track), data)
		decodes(t, "a track that is right", joined(slices.Insert(slices.Clone(list), len(list)-1, trackChunk(track, data))...), want)
	}
}

func TestP14WrongNotes(t *testing.T) {
	x := sampleImage()
	list := plainContainer(x)
	notes := []string{"", strings.Repeat("x", 41), strings.Repeat("x", 300), "\x1f", "a\x7f", "\x00", "line\n", "\xff", "\u00e9", "tab\t"}
	for _, note := range notes {
		for k := 1; k < len(list); k++ {
			s := joined(slices.Insert(slices.Clone(list), k, noteChunk(note))...)
			noContainer(t, "note "+strconv.Quote(note), s, impl.ErrFormat)
			salvages(t, "note "+strconv.Quote(note), s, x, 0)
		}
	}
	for _, note := range []string{" ", "~", "x", strings.Repeat("~", 40), strings.Repeat(" ", 39)} {
		want := copiedImage(x)
		want.Notes = append(want.Notes, note)
		decodes(t, "a note that is right", joined(slices.Insert(slices.Clone(list), len(list)-1, noteChunk(note))...), want)
	}
}

// containerOf returns a well-formed container of exactly so many bytes, with tracks of the greatest geometry.
func containerOf(total int) string {
	from := source(235)
	out := header(8, 2, 8, 2)
	rest := total - len(out) - 5
	for track := int64(0); rest > 0; track++ {
		// Each chunk has 273 to 534 bytes, as it has 3 to 264 parts.
		count := (rest + 533) / 534
		size := rest / count
		plain := plainBytes(onTrack(from.disc(1, 1, 8, 2), 0))
		out += chunkBytes(2, string([]byte{byte(track)})+loose(plain, size-270))
		rest -= size
	}
	return out + endOfContainer()
}

func TestP14LongestContainers(t *testing.T) {
	for _, count := range []int{8191, 8192} {
		s := containerOf(count)
		is(t, "bytes", len(s), count)
		code(t, "long", readsAs(t, "long", s), impl.OK)
		x, _ := impl.DecodeImage(s)
		compact, c := impl.CompactContainer(s)
		is(t, "compact", []any{compact, c, len(compact) < count}, []any{joined(plainContainer(x)...), int64(impl.OK), true})
	}
	for _, count := range []int{8193, 8194, 9000} {
		s := containerOf(count)
		is(t, "bytes", len(s), count)
		noContainer(t, "too long", s, impl.ErrFull)
		noSalvage(t, "too long", s, impl.ErrFull)
	}
	for _, s := range []string{strings.Repeat("\x00", 8193), strings.Repeat("x", 100000)} {
		noContainer(t, "too long, and no chunks", s, impl.ErrFull)
		noSalvage(t, "too long, and no chunks", s, impl.ErrFull)
	}
	noContainer(t, "no chunks", strings.Repeat("\x00", 8192), impl.ErrChecksum)
	noSalvage(t, "no chunks", strings.Repeat("\x00", 8192), impl.ErrNotFound)
}

func TestP14ErrorsInOrder(t *testing.T) {
	s := impl.EncodeImage(sampleImage())
	noContainer(t, "a byte behind it", s+"\x00", impl.ErrChecksum)
	noContainer(t, "a byte before it", "\x00"+s, impl.ErrChecksum)
	noContainer(t, "half of a chunk behind it", s+"\x04\x00\x00", impl.ErrChecksum)
	noContainer(t, "a wrong chunk in a container that is not well-formed", endOfContainer()+s+"\x05", impl.ErrChecksum)
	noContainer(t, "too many chunks, no header", strings.Repeat(endOfContainer(), 41), impl.ErrChecksum)
	noContainer(t, "as many as there may be", strings.Repeat(endOfContainer(), 40), impl.ErrFormat)
	for count := range len(s) {
		want := int64(impl.ErrChecksum)
		if _, occupied := plainChunks(s[:count]); occupied == count {
			want = impl.ErrFormat
		}
		noContainer(t, "cut off", s[:count], want)
	}
}

// appends requires a longer container with a newer track.
func appends(t *testing.T, what, s string, d impl.Disc, track int64, want string) {
	t.Helper()
	got, c := impl.AppendTrack(s, d, track)
	is(t, what, []any{got, c}, []any{want, int64(impl.OK)})
}

func noAppend(t *testing.T, what, s string, d impl.Disc, track, want int64) {
	t.Helper()
	got, c := impl.AppendTrack(s, d, track)
	is(t, what, []any{got, c}, []any{"", want})
}

func TestP14AppendedTracks(t *testing.T) {
	from := source(236)
	for range 150 {
		x := from.image()
		g := x.Disc
		d := from.disc(g.Cylinders, g.Heads, g.PerTrack, g.Size)
		s := impl.EncodeImage(x)
		for range 1 + from.below(6) {
			track := from.below(g.Cylinders * g.Heads)
			if from.below(3) == 0 {
				d = from.disc(g.Cylinders, g.Heads, g.PerTrack, g.Size)
			}
			longer, c := impl.AppendTrack(s, d, track)
			is(t, "appended", []any{longer, c}, []any{s[:len(s)-5] + trackChunk(track, onTrack(d, track)) + endOfContainer(), int64(impl.OK)})
			copy(onTrack(x.Disc, track), onTrack(d, track))
			decodes(t, "this track only", longer, x)
			s = longer
		}
		compact, c := impl.CompactContainer(s)
		is(t, "compact", []any{compact, c}, []any{joined(plainContainer(x)...), int64(impl.OK)})
		decodes(t, "compact", compact, x)
	}
}

func TestP14AppendedTrackOfMissingSectors(t *testing.T) {
	x := sampleImage()
	s := impl.EncodeImage(x)
	empty, _ := impl.NewDisc(2, 2, 2, 0)
	for track := range int64(4) {
		missing := slices.Repeat([]impl.Sector{held(0, impl.SsMissing, "")}, 2)
		longer := s[:len(s)-5] + trackChunk(track, missing) + endOfContainer()
		appends(t, "missing", s, empty, track, longer)
		want := copiedImage(x)
		copy(onTrack(want.Disc, track), missing)
		decodes(t, "missing", longer, want)
		compact, c := impl.CompactContainer(longer)
		is(t, "compact", []any{compact, c}, []any{joined(plainContainer(want)...), int64(impl.OK)})
	}
}

func TestP14NoTracksToAppend(t *testing.T) {
	from := source(237)
	for _, g := range [][4]int64{{1, 1, 1, 0}, {2, 2, 2, 0}, {8, 1, 3, 1}, {8, 2, 8, 2}} {
		x := impl.Image{Disc: from.disc(g[0], g[1], g[2], g[3])}
		s, last := impl.EncodeImage(x), g[0]*g[1]-1
		appends(t, "the last track", s, x.Disc, last, s[:len(s)-5]+trackChunk(last, onTrack(x.Disc, last))+endOfContainer())
		for _, track := range []int64{-1, last + 1, last + 2, 255, 256, 1 << 32, 1<<32 + last, math.MinInt64, math.MaxInt64} {
			noAppend(t, "no such track", s, x.Disc, track, impl.ErrRange)
			noAppend(t, "no such track of another disc", s, from.disc(3, 1, 1, 2), track, impl.ErrState)
			noAppend(t, "no such track of no disc", s, impl.Disc{}, track, impl.ErrInvalid)
		}
		for _, other := range geometries() {
			d, _ := impl.NewDisc(other[0], other[1], other[2], other[3])
			if other != g {
				noAppend(t, "another geometry", s, d, 0, impl.ErrState)
			}
		}
	}
	x := sampleImage()
	s := impl.EncodeImage(x)
	for _, d := range invalidDiscs() {
		noAppend(t, "no disc", s, d, 0, impl.ErrInvalid)
		noAppend(t, "no disc and no container", "", d, -1, impl.ErrInvalid)
		noAppend(t, "no disc and too many bytes", strings.Repeat("x", 8193), d, 0, impl.ErrInvalid)
	}
	for _, track := range []int64{0, -1, 4} {
		for _, d := range []impl.Disc{x.Disc, sampleDisc()} {
			noAppend(t, "too many bytes", strings.Repeat("x", 8193), d, track, impl.ErrFull)
			noAppend(t, "no chunks", s+"x", d, track, impl.ErrChecksum)
			noAppend(t, "no end", s[:len(s)-5], d, track, impl.ErrFormat)
			noAppend(t, "nothing", "", d, track, impl.ErrFormat)
		}
	}
}

func TestP14FullContainers(t *testing.T) {
	x := sampleImage()
	head, track, end := header(2, 2, 2, 0), trackChunk(3, onTrack(x.Disc, 3)), endOfContainer()
	with := func(count int) string { return head + strings.Repeat(track, count) + end }
	appends(t, "39 chunks and one", with(37), x.Disc, 3, with(38))
	noAppend(t, "40 chunks and one", with(38), x.Disc, 0, impl.ErrFull)
	noAppend(t, "40 chunks and the same one", with(38), x.Disc, 3, impl.ErrFull)
	noAppend(t, "40 chunks and no such track", with(38), x.Disc, 4, impl.ErrRange)
	noAppend(t, "40 chunks and another geometry", with(38), sampleDisc(), 0, impl.ErrState)
	noAppend(t, "40 chunks and no disc", with(38), impl.Disc{}, 0, impl.ErrInvalid)
	noAppend(t, "41 chunks", with(39), x.Disc, 0, impl.ErrChecksum)
	from := source(238)
	d := from.disc(8, 2, 8, 2)
	for i := range d.Sectors {
		d.Sectors[i] = impl.Sector{Data: from.bytes(32), State: impl.SsGood}
	}
	size := len(trackChunk(7, onTrack(d, 7)))
	fits := containerOf(8192 - size)
	appends(t, "8192 bytes", fits, d, 7, fits[:len(fits)-5]+trackChunk(7, onTrack(d, 7))+end)
	noAppend(t, "a byte more", containerOf(8193-size), d, 7, impl.ErrFull)
	noAppend(t, "a byte more, and no such track", containerOf(8193-size), d, 16, impl.ErrRange)
	noAppend(t, "many more", containerOf(8192), d, 7, impl.ErrFull)
	empty, _ := impl.NewDisc(8, 2, 8, 2)
	few := len(trackChunk(7, onTrack(empty, 7)))
	fits = containerOf(8192 - few)
	appends(t, "missing sectors need fewer", fits, empty, 7, fits[:len(fits)-5]+trackChunk(7, onTrack(empty, 7))+end)
	noAppend(t, "a byte more", containerOf(8193-few), empty, 7, impl.ErrFull)
}

func TestP14LostChunks(t *testing.T) {
	from := source(239)
	for i := range 40 {
		x := sampleImage()
		if i > 0 {
			x = from.image()
		}
		list := plainContainer(x)
		for k, lost := range list {
			s := joined(slices.Delete(slices.Clone(list), k, k+1)...)
			readsAs(t, "without a chunk", s)
			want := copiedImage(x)
			switch lost[0] {
			case 1:
				noSalvage(t, "without its header", s, impl.ErrNotFound)
				noContainer(t, "without its header", s, impl.ErrFormat)
				continue
			case 2:
				sectors := onTrack(want.Disc, int64(lost[3]))
				copy(sectors, slices.Repeat([]impl.Sector{held(x.Disc.Size, 3, "")}, len(sectors)))
				decodes(t, "without a track", s, want)
			case 3:
				want.Notes = slices.Delete(want.Notes, k-(len(list)-1-len(x.Notes)), k+1-(len(list)-1-len(x.Notes)))
				decodes(t, "without a note", s, want)
			case 4:
				noContainer(t, "without its end", s, impl.ErrFormat)
			}
			salvages(t, "all other tracks", s, want, 0)
		}
	}
}

// withoutChunk returns what is left of an image if one chunk of its container cannot be read.
func withoutChunk(x impl.Image, list []string, k int) impl.Image {
	left, _, _ := plainSalvaged(joined(slices.Delete(slices.Clone(list), k, k+1)...))
	return left
}

func TestP14ChangedBytes(t *testing.T) {
	x := sampleImage()
	list := plainContainer(x)
	s := joined(list...)
	at := 0
	for k, c := range list {
		for i := range len(c) {
			for more := 1; more < 256; more++ {
				changed := []byte(s)
				changed[at+i] ^= byte(more)
				if readsAs(t, "changed", string(changed)) != impl.ErrChecksum {
					t.Errorf("the changed byte %d is not noticed", at+i)
				}
				if k == 0 {
					noSalvage(t, "no header", string(changed), impl.ErrNotFound)
				} else {
					salvages(t, "all others", string(changed), withoutChunk(x, list, k), int64(len(c)))
				}
			}
		}
		at += len(c)
	}
}

func TestP14LostBytes(t *testing.T) {
	x := sampleImage()
	list := plainContainer(x)
	s := joined(list...)
	at := 0
	for k, c := range list {
		for i := range len(c) {
			fewer, more := s[:at+i]+s[at+i+1:], s[:at+i]+"\x00"+s[at+i:]
			readsAs(t, "a byte is lost", fewer)
			readsAs(t, "a byte is added", more)
			if k > 0 && i > 0 {
				salvages(t, "a byte is lost", fewer, withoutChunk(x, list, k), int64(len(c)-1))
				salvages(t, "a byte is added", more, withoutChunk(x, list, k), int64(len(c)+1))
			}
		}
		salvages(t, "bytes between chunks", s[:at]+"between"+s[at:], x, 7)
		at += len(c)
	}
	salvages(t, "bytes behind it", s+"\x04\x00\x00\x10", x, 4)
	salvages(t, "cut off behind the tracks", joined(list[:4]...)+"\x03\x00\x06side", impl.Image{Disc: x.Disc}, 7)
}

// outer returns a CkTrack of a disc with 2 sectors of 32 bytes on each track that contains all bytes of a chunk.
func outer(track int64, inner string) string {
	list := []impl.Sector{{Data: inner + strings.Repeat("\x00", 32-len(inner)), State: impl.SsGood}, {Data: strings.Repeat("\x00", 32), State: impl.SsGood}}
	return trackChunk(track, list)
}

func TestP14ChunksWithinOthers(t *testing.T) {
	head, end := header(1, 2, 2, 2), endOfContainer()
	other := outer(1, "other")
	bare, _ := impl.DecodeImage(joined(head, other, end))
	for _, inner := range []string{noteChunk("inner"), noteChunk("x"), header(2, 1, 2, 0), header(1, 2, 2, 2), endOfContainer(), chunkBytes(2, "\x00"), noteChunk("\x00")} {
		whole := outer(0, inner)
		is(t, "it is in there", strings.Contains(whole, inner), true)
		s := joined(head, whole, other, end)
		x, c := impl.DecodeImage(s)
		is(t, "the outer chunk is whole", []any{c, x.Disc.Sectors[0].Data[:len(inner)], len(x.Notes)}, []any{int64(impl.OK), inner, 0})
		salvages(t, "the outer chunk is taken", s, x, 0)
		for _, at := range []int{0, 1, 2, 3, 4, len(whole) - 2, len(whole) - 1} {
			hurt := whole[:at] + string([]byte{whole[at] ^ 0x40}) + whole[at+1:]
			want := copiedImage(bare)
			if inner[0] == 3 && plainNote(inner[3:len(inner)-2]) {
				want.Notes = []string{inner[3 : len(inner)-2]}
			}
			salvages(t, "the inner chunk is taken", joined(head, hurt, other, end), want, int64(len(whole)-len(inner)))
			readsAs(t, "the inner chunk", joined(head, hurt, other, end))
		}
		// If there is no header before it, that of the inner chunk counts, and no other one has its geometry.
		readsAs(t, "no header but an inner one", joined(whole[:len(whole)-1], "x", other, end))
		readsAs(t, "an inner one before the header", joined(whole[:len(whole)-1], "x", head, other, end))
	}
	// The last bytes of a chunk begin another one: what was taken is not searched again.
	whole := noteChunk("a note") + noteChunk("b")
	salvages(t, "in ascending order", head+chunkBytes(3, whole)+end, emptyImage(1, 2, 2, 2), 0)
}

func TestP14HeadersToSalvage(t *testing.T) {
	x := sampleImage()
	list := plainContainer(x)
	tracks, end := joined(list[1:len(list)-1]...), endOfContainer()
	own, otherHead := list[0], header(1, 1, 2, 0)
	other, _ := impl.NewDisc(1, 1, 2, 0)
	copy(other.Sectors, onTrack(x.Disc, 0))
	otherImage := impl.Image{Disc: other, Notes: x.Notes}
	salvages(t, "tracks before the header", tracks+own+end, x, 0)
	salvages(t, "some before it", joined(list[1], own, joined(list[2:]...)), x, 0)
	salvages(t, "behind the end", end+tracks+own, x, 0)
	salvages(t, "the same header twice", own+tracks+own+end, x, 0)
	salvages(t, "another one behind it", own+tracks+otherHead+end, x, 0)
	salvages(t, "another one directly behind it", own+otherHead+tracks+end, x, 0)
	salvages(t, "another one before it", otherHead+own+tracks+end, otherImage, 0)
	salvages(t, "both behind the tracks", tracks+otherHead+own, otherImage, 0)
	salvages(t, "another one, damaged", otherHead[:4]+"x"+otherHead[5:]+own+tracks+end, x, 12)
	salvages(t, "without an end", own+tracks, x, 0)
	salvages(t, "several ends", end+own+end+tracks+end, x, 0)
	salvages(t, "nothing else", own, emptyImage(2, 2, 2, 0), 0)
	salvages(t, "two containers", joined(list...)+joined(list...), impl.Image{Disc: x.Disc, Notes: slices.Concat(x.Notes, x.Notes)}, 0)
	noSalvage(t, "no header", tracks+end, impl.ErrNotFound)
	noSalvage(t, "nothing", "", impl.ErrNotFound)
	noSalvage(t, "no chunk", "nothing", impl.ErrNotFound)
	noSalvage(t, "half a header", own[:len(own)-1], impl.ErrNotFound)
}

func TestP14ManyChunksToSalvage(t *testing.T) {
	x := sampleImage()
	head, first := header(2, 2, 2, 0), trackChunk(0, onTrack(x.Disc, 0))
	newer := trackChunk(0, []impl.Sector{{Data: "12345678", State: 1}, {Data: "abcdefgh", State: 2}})
	want, _ := impl.NewDisc(2, 2, 2, 0)
	copy(want.Sectors, []impl.Sector{{Data: "12345678", State: 1}, {Data: "abcdefgh", State: 2}})
	salvages(t, "more than MaxChunks", head+strings.Repeat(first, 60)+newer, impl.Image{Disc: want}, 0)
	salvages(t, "the header is the last one", strings.Repeat(first, 60)+newer+head, impl.Image{Disc: want}, 0)
	salvages(t, "a wrong one behind it", head+newer+chunkBytes(2, "\x00\x00\x01")+chunkBytes(2, "\x04"+first[4:len(first)-2]), impl.Image{Disc: want}, 0)
	notes := ""
	for _, note := range strings.Split("abcdefghijkl", "") {
		notes += noteChunk(note)
	}
	salvages(t, "further notes are ignored", notes+head+newer, impl.Image{Disc: want, Notes: strings.Split("abcdefgh", "")}, 0)
	salvages(t, "and wrong ones do not count", joined(noteChunk(""), noteChunk("\x1f"), head, noteChunk(strings.Repeat("x", 41)), notes, newer), impl.Image{Disc: want, Notes: strings.Split("abcdefgh", "")}, 0)
	// A string as long as a container may be, with chunks at both ends.
	long := head + strings.Repeat("\xff", 8192-len(head)-len(newer)) + newer
	salvages(t, "the longest", long, impl.Image{Disc: want}, int64(8192-len(head)-len(newer)))
	noSalvage(t, "a byte more", long+"\xff", impl.ErrFull)
	for _, pattern := range []string{"\x01", "\x02", "\x03\x10", "\x04\x00", "\x01\x10\x00", "PI\x01"} {
		readsAs(t, "what looks like chunks", strings.Repeat(pattern, 700))
	}
}

func TestP14AnyBytes(t *testing.T) {
	from := source(240)
	codes := map[int64]int{}
	for range 3000 {
		x, y := from.image(), sampleImage()
		var pieces []string
		for _, list := range [][]string{plainContainer(x), plainContainer(y), {from.bytes(int(from.below(9))), noteChunk(from.note(5)), chunkBytes(int(from.below(6)), from.bytes(3)), header(2, 2, 2, 0), endOfContainer()}} {
			pieces = append(pieces, list...)
		}
		s := header(2, 2, 2, 0)
		for range from.below(6) {
			s += pieces[from.below(int64(len(pieces)))]
		}
		s += endOfContainer()
		if from.below(3) == 0 {
			at := from.below(int64(len(s)))
			s = s[:at] + from.bytes(1) + s[at+from.below(2):]
		}
		codes[readsAs(t, "any bytes", s)]++
	}
	is(t, "all that can happen", []bool{codes[impl.OK] > 50, codes[impl.ErrChecksum] > 50, codes[impl.ErrFormat] > 50}, []bool{true, true, true})
}
