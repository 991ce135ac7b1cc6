package tests

import (
	"math"
	"slices"
	"strconv"
	"strings"
	"testing"

	"loop.example/g00899/impl"
)

// featureKinds are all kinds of features.
func featureKinds() []int64 {
	return []int64{impl.FtDuplicate, impl.FtForeign, impl.FtBadId, impl.FtBadData, impl.FtNoData, impl.FtDeleted, impl.FtWeak, impl.FtLong}
}

// wordOf is the word that the document gives a kind.
func wordOf(kind int64) string {
	return [...]string{"", "duplicate", "foreign", "bad-id", "bad-data", "no-data", "deleted", "weak", "long"}[kind]
}

// edgeNumbers are the ends of all numbers of features and the numbers beside them.
func edgeNumbers() []int64 {
	return []int64{math.MinInt64, -512, -2, -1, 0, 1, 2, 3, 5, 61, 62, 63, 64, 65, 255, 256, 511, 512, 513, 7999, 8000, 8001, 1 << 32, 1<<32 + 1, math.MaxInt64 - 1, math.MaxInt64}
}

// plainValid follows the table of the document.
func plainValid(f impl.Feature) bool {
	if f.Kind < 1 || f.Kind > 8 || f.Sector < 0 || f.Sector > 63 {
		return false
	}
	switch f.Kind {
	case impl.FtDuplicate:
		return f.Value >= 0 && f.Value < f.Sector
	case impl.FtWeak:
		return f.Value >= 1 && f.Value <= 512
	case impl.FtLong:
		return f.Value >= 1 && f.Value <= 8000 && f.Sector == 0
	}
	return f.Value == 0
}

// plainText follows the table of the document.
func plainText(f impl.Feature) string {
	sector, value := " "+strconv.FormatInt(f.Sector, 10), " "+strconv.FormatInt(f.Value, 10)
	switch f.Kind {
	case impl.FtDuplicate, impl.FtWeak:
		return wordOf(f.Kind) + sector + value
	case impl.FtLong:
		return wordOf(f.Kind) + value
	}
	return wordOf(f.Kind) + sector
}

// validText is the text of a feature, or nothing for one that is not valid.
func validText(f impl.Feature) (string, bool) {
	if !plainValid(f) {
		return "", false
	}
	return plainText(f), true
}

// edgeFeatures are features of all kinds, and of those beside them, with all numbers at the ends.
func edgeFeatures() []impl.Feature {
	var list []impl.Feature
	for _, kind := range append(featureKinds(), 0, -1, 9, 10, 1<<32+1, math.MinInt64, math.MaxInt64) {
		for _, sector := range edgeNumbers() {
			for _, value := range edgeNumbers() {
				list = append(list, impl.Feature{Kind: kind, Sector: sector, Value: value})
			}
		}
	}
	return list
}

// plainFeatures follows the words of the document, for each sector and each kind.
func plainFeatures(list []impl.Found, cylinder, head int64) []impl.Feature {
	features := []impl.Feature{}
	for i, f := range list {
		first := i
		for j := i - 1; j >= 0; j-- {
			g := list[j]
			if g.State != impl.StBadId && g.Cylinder == f.Cylinder && g.Head == f.Head && g.Number == f.Number && g.Size == f.Size {
				first = j
			}
		}
		bad := f.State == impl.StBadId
		has := []bool{false, !bad && first < i, !bad && (f.Cylinder != cylinder || f.Head != head), bad, f.State == impl.StBadData, f.State == impl.StNoData, !bad && f.Deleted}
		for kind, ok := range has {
			feature := impl.Feature{Kind: int64(kind), Sector: int64(i)}
			if kind == impl.FtDuplicate {
				feature.Value = int64(first)
			}
			if ok {
				features = append(features, feature)
			}
		}
	}
	return features
}

// featuresAre requires features, which are valid, and OK.
func featuresAre(t *testing.T, what string, got []impl.Feature, gotCode int64, want ...impl.Feature) {
	t.Helper()
	code(t, what, gotCode, impl.OK)
	if !slices.Equal(got, want) {
		t.Errorf("%s: got %v, want %v", what, got, want)
	}
	for _, f := range got {
		is(t, what+": valid", impl.ValidFeature(f), true)
	}
}

// noFeatures requires an error and no features.
func noFeatures(t *testing.T, what string, got []impl.Feature, gotCode, want int64) {
	t.Helper()
	code(t, what, gotCode, want)
	is(t, what+": number of features", len(got), 0)
}

// read returns a found sector on the track 3/1 with a number and a state.
func read(number, state int64) impl.Found {
	f := impl.Found{Cylinder: 3, Head: 1, Number: number, State: state}
	if state == impl.StGood || state == impl.StBadData {
		f.Data = "ABCDEFGH"
	}
	return f
}

// readings are found sectors of all states with few addresses, of which some are not those of the track 3/1.
func (s *source) readings(count int64) []impl.Found {
	list := []impl.Found{}
	for range count {
		f := read(1+s.below(3), 1+s.below(4))
		f.Cylinder, f.Head, f.At = 3+s.below(5)/4, 1-s.below(5)/4, s.below(8000)
		if f.Data != "" {
			f.Size, f.Deleted = s.below(2), s.below(2) == 0
			f.Data = strings.Repeat("x", 8<<f.Size)
		}
		list = append(list, f)
	}
	return list
}

func noBytes() []int64 { return []int64{-1, 256, 257, 1 << 32, math.MinInt64, math.MaxInt64} }

func noNominals() []int64 {
	return []int64{0, -1, 8001, 8002, 1<<32 + 1, math.MinInt64, math.MinInt64 + 1, math.MaxInt64}
}

func TestP12ExamplesOfTheDocument(t *testing.T) {
	f := impl.Feature{Kind: impl.FtDuplicate, Sector: 2, Value: 0}
	x, c := impl.ProtectTrack(sampleTrack(), f)
	is(t, "a duplicate of the sector 0", []any{c, len(x.Sectors), impl.FeatureText(f)}, []any{int64(impl.OK), 3, "duplicate 2 0"})
	is(t, "constants", featureKinds(), []int64{1, 2, 3, 4, 5, 6, 7, 8})
}

func TestP12ValidFeatures(t *testing.T) {
	for _, f := range edgeFeatures() {
		is(t, "valid "+brief(f), impl.ValidFeature(f), plainValid(f))
	}
	for sector := int64(-1); sector <= 64; sector++ {
		for value := int64(-1); value <= 65; value++ {
			f := impl.Feature{Kind: impl.FtDuplicate, Sector: sector, Value: value}
			is(t, "duplicate "+brief(f), impl.ValidFeature(f), sector < 64 && 0 <= value && value < sector)
		}
	}
	is(t, "the zero feature", impl.ValidFeature(impl.Feature{}), false)
}

func TestP12TextsOfFeatures(t *testing.T) {
	for _, r := range []struct {
		text string
		f    impl.Feature
	}{
		{"duplicate 1 0", impl.Feature{Kind: 1, Sector: 1}},
		{"duplicate 63 62", impl.Feature{Kind: 1, Sector: 63, Value: 62}},
		{"foreign 0", impl.Feature{Kind: 2}},
		{"foreign 63", impl.Feature{Kind: 2, Sector: 63}},
		{"bad-id 10", impl.Feature{Kind: 3, Sector: 10}},
		{"bad-data 7", impl.Feature{Kind: 4, Sector: 7}},
		{"no-data 0", impl.Feature{Kind: 5}},
		{"deleted 9", impl.Feature{Kind: 6, Sector: 9}},
		{"weak 0 1", impl.Feature{Kind: 7, Value: 1}},
		{"weak 63 512", impl.Feature{Kind: 7, Sector: 63, Value: 512}},
		{"long 1", impl.Feature{Kind: 8, Value: 1}},
		{"long 8000", impl.Feature{Kind: 8, Value: 8000}},
	} {
		f, ok := impl.ReadFeature(r.text)
		is(t, r.text, []any{impl.FeatureText(r.f), f, ok}, []any{r.text, r.f, true})
	}
	for _, f := range edgeFeatures() {
		want, valid := validText(f)
		is(t, "text of "+brief(f), impl.FeatureText(f), want)
		if valid {
			back, ok := impl.ReadFeature(want)
			is(t, "feature of "+want, []any{back, ok}, []any{f, true})
		}
	}
}

// Of all words with up to three numbers behind them, only the texts of valid features are read.
func TestP12OnlyTextsOfFeaturesAreRead(t *testing.T) {
	texts := map[string]impl.Feature{}
	for _, f := range edgeFeatures() {
		if text, valid := validText(f); valid {
			texts[text] = f
		}
	}
	var numbers []string
	for _, n := range edgeNumbers() {
		numbers = append(numbers, strconv.FormatInt(n, 10))
	}
	numbers = append(numbers, "", "+1", "01", "00", "-0", "+0", "1 ", " 1", "1_0", "0x1", "1.0", "1e1", "a", "\u0661", "1\n", "\t1", "9223372036854775808", strings.Repeat("9", 400), "0"+strings.Repeat("0", 400)+"1")
	check := func(s string) {
		t.Helper()
		f, ok := impl.ReadFeature(s)
		want, isText := texts[s]
		is(t, s, []any{f, ok}, []any{want, isText})
	}
	for kind := range int64(9) {
		word := wordOf(kind)
		check(word)
		for _, a := range numbers {
			check(word + " " + a)
			check(word + a)
			for _, b := range numbers {
				check(word + " " + a + " " + b)
			}
			check(word + " 5 1 " + a)
			check(word + "  5 " + a)
			check(word + " 5  " + a)
		}
	}
}

func TestP12NoTextsOfFeatures(t *testing.T) {
	list := append(oddStrings(), "duplicate", "duplicate 2", "duplicate 2 ", "duplicate 2 0 ", " duplicate 2 0", "duplicate  2 0", "duplicate 2 0 0", "duplicate 2 2", "duplicate 0 0", "duplicate 0 -1", "duplicate 64 0", "duplicate +2 0", "duplicate 2 +0", "duplicate 02 0", "duplicate 2 00", "duplicate 2 -0", "duplicate 2,0", "duplicate\t2 0", "Duplicate 2 0", "DUPLICATE 2 0", "duplicates 2 0",
		"foreign", "foreign ", "foreign 64", "foreign -1", "foreign 0 0", "foreign +0", "foreign 00", "foreign 0\n", "foreign0", "bad 0", "bad-id 0 0", "bad-id 1 2", "bad_id 1", "badid 1", "bad-id -0", "bad-data 1 1", "bad-data 0x1", "no-data 1.", "nodata 1", "no-data 2 0", "deleted", "deleted 5 0", "deleted 1 2 3", "deleted 05",
		"weak 0", "weak 0 0", "weak 0 513", "weak 64 1", "weak 0 -1", "weak 0 01", "weak 1 2 3", "weak 1", "long", "long 0", "long -1", "long 8001", "long 0 5", "long 5 0", "long 0 0", "long +5", "long 05", "long 5 5", "long 18446744073709551617", "duplicate 18446744073709551618 0", "weak 0 18446744073709551617", "\x00", "2 0", " 0", "1 2 0", "0", strings.Repeat(" ", 100000), "duplicate"+strings.Repeat(" 1", 100000))
	for _, s := range list {
		f, ok := impl.ReadFeature(s)
		is(t, "no feature "+brief(s), []any{f, ok}, []any{impl.Feature{}, false})
	}
}

func TestP12SectorsWithTheSameAddress(t *testing.T) {
	dup := func(sector, value int64) impl.Feature {
		return impl.Feature{Kind: impl.FtDuplicate, Sector: sector, Value: value}
	}
	bad := func(sector int64) impl.Feature { return impl.Feature{Kind: impl.FtBadId, Sector: sector} }
	features := func(what string, list []impl.Found, want ...impl.Feature) {
		t.Helper()
		got, c := impl.SectorFeatures(list, 3, 1)
		featuresAre(t, what, got, c, want...)
	}
	good, wrong, none := read(2, impl.StGood), read(2, impl.StBadId), read(2, impl.StNoData)
	features("three of them", []impl.Found{good, good, good}, dup(1, 0), dup(2, 0))
	features("four, and others between them", []impl.Found{read(5, impl.StGood), good, read(5, impl.StGood), good, read(6, impl.StGood), good}, dup(2, 0), dup(3, 1), dup(5, 1))
	features("the first one has a wrong id field", []impl.Found{wrong, good}, bad(0))
	features("and the one after it does not", []impl.Found{wrong, good, good}, bad(0), dup(2, 1))
	features("the second one has a wrong id field", []impl.Found{good, wrong, good}, bad(1), dup(2, 0))
	features("both have a wrong id field", []impl.Found{wrong, wrong}, bad(0), bad(1))
	features("without data", []impl.Found{none, good, none}, impl.Feature{Kind: impl.FtNoData}, dup(1, 0), dup(2, 0), impl.Feature{Kind: impl.FtNoData, Sector: 2})
	features("other data and places do not matter", []impl.Found{good, {Cylinder: 3, Head: 1, Number: 2, Data: "ijklmnop", State: impl.StGood, At: 77}}, dup(1, 0))
	for i := range 4 {
		other := []impl.Found{good, good, good, good}[i]
		switch i {
		case 0:
			other.Number = 1
		case 1:
			other.Size, other.Data = 1, "ABCDEFGHABCDEFGH"
		case 2:
			other.Head = 0
		case 3:
			other.Cylinder = 2
		}
		got, c := impl.SectorFeatures([]impl.Found{good, other}, 3, 1)
		want := []impl.Feature{{Kind: impl.FtForeign, Sector: 1}}
		featuresAre(t, "another address", got, c, want[:i/2]...)
	}
}

func TestP12AllKindsAtOnce(t *testing.T) {
	foreign := impl.Found{Cylinder: 4, Head: 1, Number: 2, Data: "ABCDEFGH", State: impl.StBadData, Deleted: true}
	none := impl.Found{Cylinder: 4, Head: 1, Number: 2, State: impl.StNoData}
	wrong := impl.Found{Cylinder: 4, Head: 0, Number: 2, Size: 255, State: impl.StBadId}
	got, c := impl.SectorFeatures([]impl.Found{none, foreign, wrong, foreign}, 3, 1)
	want := []impl.Feature{{Kind: 2}, {Kind: 5}, {Kind: 1, Sector: 1}, {Kind: 2, Sector: 1}, {Kind: 4, Sector: 1}, {Kind: 6, Sector: 1}, {Kind: 3, Sector: 2}, {Kind: 1, Sector: 3}, {Kind: 2, Sector: 3}, {Kind: 4, Sector: 3}, {Kind: 6, Sector: 3}}
	featuresAre(t, "in ascending order", got, c, want...)
	for _, r := range [][]int64{{3, 1, 0}, {4, 1, 1}, {3, 0, 1}, {255, 255, 1}, {0, 0, 1}} {
		got, c := impl.SectorFeatures([]impl.Found{read(9, impl.StGood)}, r[0], r[1])
		featuresAre(t, "on another track", got, c, []impl.Feature{{Kind: impl.FtForeign}}[:r[2]]...)
	}
	got, c = impl.SectorFeatures([]impl.Found{wrong}, 3, 1)
	featuresAre(t, "a wrong id field only", got, c, impl.Feature{Kind: impl.FtBadId})
	got, c = impl.SectorFeatures(nil, 3, 1)
	featuresAre(t, "no sectors", got, c)
}

func TestP12SectorFeatures(t *testing.T) {
	from := source(160)
	for range 600 {
		list := from.readings(from.below(12))
		got, c := impl.SectorFeatures(list, 3, 1)
		featuresAre(t, "features", got, c, plainFeatures(list, 3, 1)...)
	}
	most := from.readings(impl.MaxMarks)
	got, c := impl.SectorFeatures(most, 3, 1)
	featuresAre(t, "MaxMarks sectors", got, c, plainFeatures(most, 3, 1)...)
	same := slices.Repeat([]impl.Found{read(1, impl.StGood)}, impl.MaxMarks)
	got, c = impl.SectorFeatures(same, 3, 1)
	featuresAre(t, "MaxMarks sectors that are alike", got, c, plainFeatures(same, 3, 1)...)
	is(t, "the last one", got[len(got)-1], impl.Feature{Kind: impl.FtDuplicate, Sector: 63})
}

func TestP12NoSectorFeatures(t *testing.T) {
	many := slices.Repeat([]impl.Found{read(1, impl.StGood)}, impl.MaxMarks+1)
	invalid := [][]impl.Found{many, append(slices.Clone(many[:5]), impl.Found{})}
	for _, f := range invalidFound() {
		invalid = append(invalid, []impl.Found{f}, []impl.Found{read(1, impl.StGood), f, read(1, impl.StNoData)})
	}
	for _, list := range invalid {
		for _, n := range []int64{0, 255, -1, 256} {
			got, c := impl.SectorFeatures(list, n, n)
			noFeatures(t, "invalid first", got, c, impl.ErrInvalid)
		}
	}
	for _, n := range noBytes() {
		for _, list := range [][]impl.Found{nil, {read(1, impl.StGood)}, many[:impl.MaxMarks]} {
			got, c := impl.SectorFeatures(list, n, 1)
			noFeatures(t, "no cylinder", got, c, impl.ErrRange)
			got, c = impl.SectorFeatures(list, 3, n)
			noFeatures(t, "no head", got, c, impl.ErrRange)
		}
	}
	for _, n := range []int64{0, 255} {
		got, c := impl.SectorFeatures(nil, n, 255-n)
		featuresAre(t, "the ends", got, c)
	}
}

func TestP12LongFeature(t *testing.T) {
	for _, count := range []int64{1, 2, 3, 16, 576, 7999, 8000} {
		cells := strings.Repeat("1", int(count))
		for _, nominal := range []int64{1, 2, 3, 100, count - 1, count, count + 1, 7998, 7999, 8000} {
			if nominal < 1 || nominal > impl.MaxCells {
				continue
			}
			f, ok := impl.LongFeature(cells, nominal)
			want := impl.Feature{}
			if count > nominal {
				want = impl.Feature{Kind: impl.FtLong, Value: count - nominal}
			}
			is(t, "long", []any{f, ok}, []any{want, count > nominal})
			is(t, "valid", impl.ValidFeature(f), ok)
		}
		for _, nominal := range noNominals() {
			f, ok := impl.LongFeature(cells, nominal)
			is(t, "no nominal length", []any{f, ok}, []any{impl.Feature{}, false})
		}
	}
	for _, cells := range append(noCells(), strings.Repeat("0", impl.MaxCells+1), strings.Repeat("0", 100)+"2") {
		for _, nominal := range []int64{1, 2, 8000} {
			f, ok := impl.LongFeature(cells, nominal)
			is(t, "no cells", []any{f, ok}, []any{impl.Feature{}, false})
		}
	}
}

func TestP12WeakFeatures(t *testing.T) {
	weak := func(sector, value int64) impl.Feature {
		return impl.Feature{Kind: impl.FtWeak, Sector: sector, Value: value}
	}
	for size := range int64(3) {
		got, c := impl.WeakFeatures(elected(size))
		featuresAre(t, "sectors of all states", got, c, weak(2, 3), weak(3, 3))
	}
	all := weakSector()
	all.Size, all.Data, all.Weak = 2, strings.Repeat("x", 32), upTo(32)
	got, c := impl.WeakFeatures([]impl.Voted{all, elected(0)[0], weakSector(), weakSector()})
	featuresAre(t, "numbers of bytes", got, c, weak(0, 32), weak(2, 2), weak(3, 2))
	most := append(slices.Repeat([]impl.Voted{elected(1)[5]}, impl.MaxMarks-1), weakSector())
	got, c = impl.WeakFeatures(most)
	featuresAre(t, "MaxMarks sectors", got, c, weak(63, 2))
	got, c = impl.WeakFeatures(nil)
	featuresAre(t, "no sectors", got, c)
	for _, list := range [][]impl.Voted{append(most, weakSector()), make([]impl.Voted, 1)} {
		got, c = impl.WeakFeatures(list)
		noFeatures(t, "no list", got, c, impl.ErrInvalid)
	}
	for _, v := range invalidVoted() {
		got, c = impl.WeakFeatures([]impl.Voted{weakSector(), v})
		noFeatures(t, "invalid sector", got, c, impl.ErrInvalid)
	}
}

// What differs between revolutions that are read is weak.
func TestP12WeakSectorsOfRevolutions(t *testing.T) {
	spec := sampleTrack()
	first := built(t, spec)
	spec.Sectors[1].Data = "AxCDEFGHIJKLMxxP"
	list, c := impl.ReadRevolutions([]string{first, built(t, spec), first}, impl.TfMfm)
	code(t, "read", c, impl.OK)
	got, c := impl.WeakFeatures(list)
	featuresAre(t, "three bytes differ", got, c, impl.Feature{Kind: impl.FtWeak, Sector: 1, Value: 3})
}

// longer returns the feature of a track with more cells than usual, if there are more.
func longer(count, nominal int64) []impl.Feature {
	if count <= nominal {
		return nil
	}
	return []impl.Feature{{Kind: impl.FtLong, Value: count - nominal}}
}

// foundOf returns how the sectors of a track are found, as the document says for descriptions.
func foundOf(spec impl.TrackSpec) []impl.Found {
	list := []impl.Found{}
	for i, s := range spec.Sectors {
		list = append(list, foundAs(s, int64(i), 0, impl.MaxCells))
	}
	return list
}

// crowd returns a track whose sectors have few addresses, of which most are those of the track 3/1.
func (s *source) crowd(format, count int64) impl.TrackSpec {
	spec := s.track(format, count)
	for i := range spec.Sectors {
		x := &spec.Sectors[i]
		x.Cylinder, x.Head, x.Number, x.BadId = 3+s.below(5)/4, 1-s.below(5)/4, 1+s.below(2), s.below(4) == 0
		if s.below(3) > 0 {
			x.Size, x.Data = 0, s.bytes(8)
		}
	}
	return spec
}

// hasItsFeatures requires that a track that is built and read has the features of its description.
func hasItsFeatures(t *testing.T, spec impl.TrackSpec, nominal int64) {
	t.Helper()
	want := plainFeatures(foundOf(spec), 3, 1)
	got, c := impl.SpecFeatures(spec, 3, 1)
	featuresAre(t, "as described", got, c, want...)
	cells := built(t, spec)
	got, c = impl.TrackFeatures(cells, spec.Format, 3, 1, nominal)
	featuresAre(t, "as built", got, c, append(want, longer(int64(len(cells)), nominal)...)...)
}

func TestP12TracksHaveTheFeaturesOfTheirDescription(t *testing.T) {
	from := source(161)
	for _, format := range formats() {
		for count := range int64(9) {
			for range 25 {
				spec := from.crowd(format, count)
				total := impl.TrackCells(spec)
				if total > impl.MaxCells {
					continue
				}
				for _, nominal := range []int64{1, total - 1, total, min(total+1, impl.MaxCells), impl.MaxCells} {
					hasItsFeatures(t, spec, nominal)
				}
			}
		}
	}
}

// From another cell on, the sectors come in another order, and so do their features.
func TestP12FeaturesOfTurnedTracks(t *testing.T) {
	from := source(162)
	for _, format := range formats() {
		for range 30 {
			spec := from.crowd(format, 4)
			cells := built(t, spec)
			by := int(from.below(int64(len(cells))))
			got, c := impl.TrackFeatures(turned(cells, by), format, 3, 1, impl.MaxCells)
			featuresAre(t, "turned", got, c, plainFeatures(foundIn(spec, by), 3, 1)...)
		}
	}
}

func TestP12TracksWithoutData(t *testing.T) {
	for _, format := range formats() {
		id := encoded(format, plainField(format, impl.MkId, "\x03\x01\x05\x00", false))
		cells := markLiteral(format, impl.MkId) + id + strings.Repeat("0110", 8)
		if format == impl.TfGcr {
			cells = "1111111111" + cells
		}
		got, c := impl.TrackFeatures(cells, format, 3, 1, int64(len(cells))-4)
		featuresAre(t, "one id field", got, c, impl.Feature{Kind: impl.FtNoData}, impl.Feature{Kind: impl.FtLong, Value: 4})
		got, c = impl.TrackFeatures(cells+cells, format, 3, 2, impl.MaxCells)
		featuresAre(t, "two id fields", got, c, impl.Feature{Kind: 2}, impl.Feature{Kind: 5}, impl.Feature{Kind: 1, Sector: 1}, impl.Feature{Kind: 2, Sector: 1}, impl.Feature{Kind: 5, Sector: 1})
	}
}

func TestP12NoTrackFeatures(t *testing.T) {
	cells := built(t, sampleTrack())
	all := append(noBytes(), 3)
	nominals := append(noNominals(), 1, 8000)
	for _, nominal := range nominals {
		for _, n := range all {
			got, c := impl.TrackFeatures("", impl.TfMfm, n, n, nominal)
			noFeatures(t, "no cells", got, c, impl.ErrInvalid)
			got, c = impl.TrackFeatures(cells, 4, n, n, nominal)
			noFeatures(t, "no format", got, c, impl.ErrInvalid)
		}
	}
	for _, s := range noCells() {
		got, c := impl.TrackFeatures(s, impl.TfMfm, 3, 1, 100)
		noFeatures(t, "no cells", got, c, impl.ErrInvalid)
	}
	for _, n := range noChoice() {
		got, c := impl.TrackFeatures(cells, n, 3, 1, 100)
		noFeatures(t, "no format", got, c, impl.ErrInvalid)
	}
	for _, n := range noBytes() {
		got, c := impl.TrackFeatures(cells, impl.TfMfm, n, 1, 100)
		noFeatures(t, "no cylinder", got, c, impl.ErrRange)
		got, c = impl.TrackFeatures(cells, impl.TfMfm, 3, n, 100)
		noFeatures(t, "no head", got, c, impl.ErrRange)
	}
	for _, n := range noNominals() {
		got, c := impl.TrackFeatures(cells, impl.TfMfm, 3, 1, n)
		noFeatures(t, "no nominal length", got, c, impl.ErrRange)
	}
	many := strings.Repeat(marked(impl.TfFm, impl.MkId), impl.MaxMarks+1)
	_, c := impl.ReadTrack(many, impl.TfFm)
	code(t, "too many marks", c, impl.ErrFull)
	got, c := impl.TrackFeatures(many, impl.TfFm, 3, 1, 100)
	noFeatures(t, "too many marks", got, c, impl.ErrFull)
}

// plainProtected follows the words of the document.
func plainProtected(spec impl.TrackSpec, f impl.Feature) (impl.TrackSpec, int64) {
	count := int64(len(spec.Sectors))
	spec.Sectors = slices.Clone(spec.Sectors)
	switch {
	case f.Kind == impl.FtNoData || f.Kind == impl.FtWeak:
		return impl.TrackSpec{}, impl.ErrState
	case f.Kind == impl.FtLong:
		spec.Gap += f.Value
	case f.Kind == impl.FtDuplicate && f.Sector == count:
		s := spec.Sectors[f.Value]
		s.Deleted, s.BadId, s.BadData = false, false, false
		data := []byte(s.Data)
		for i := range data {
			data[i] = 255 - data[i]
		}
		s.Data = string(data)
		spec.Sectors = append(spec.Sectors, s)
	case f.Kind == impl.FtDuplicate || f.Sector >= count:
		return impl.TrackSpec{}, impl.ErrRange
	case f.Kind == impl.FtForeign:
		spec.Sectors[f.Sector].Cylinder = 255 - spec.Sectors[f.Sector].Cylinder
	case f.Kind == impl.FtBadId:
		spec.Sectors[f.Sector].BadId = true
	case f.Kind == impl.FtBadData:
		spec.Sectors[f.Sector].BadData = true
	case f.Kind == impl.FtDeleted:
		spec.Sectors[f.Sector].Deleted = true
	}
	if len(spec.Sectors) > 8 || spec.Gap > 20 {
		return impl.TrackSpec{}, impl.ErrFull
	}
	return spec, impl.OK
}

func TestP12ProtectTrack(t *testing.T) {
	from := source(163)
	for _, format := range formats() {
		for count := range int64(9) {
			for _, f := range edgeFeatures() {
				if !plainValid(f) {
					continue
				}
				spec := from.track(format, count)
				want, wantCode := plainProtected(spec, f)
				got, c := impl.ProtectTrack(spec, f)
				code(t, plainText(f), c, wantCode)
				is(t, plainText(f)+" on "+strconv.FormatInt(count, 10)+" sectors", []bool{impl.SameTrackSpec(got, want), impl.ValidTrackSpec(got)}, []bool{true, wantCode == impl.OK})
			}
		}
	}
}

// Each flag that is set stays set, and a duplicate has none of them.
func TestP12ProtectTrackTwice(t *testing.T) {
	all := sampleSector()
	all.Deleted, all.BadId, all.BadData = true, true, true
	spec := impl.TrackSpec{Format: impl.TfGcr, Gap: 3, Sectors: []impl.SectorSpec{all}}
	for _, kind := range []int64{impl.FtBadId, impl.FtBadData, impl.FtDeleted} {
		got, c := impl.ProtectTrack(spec, impl.Feature{Kind: kind})
		is(t, "still set", []any{got, c}, []any{spec, int64(impl.OK)})
	}
	got, _ := impl.ProtectTrack(spec, impl.Feature{Kind: impl.FtDuplicate, Sector: 1})
	is(t, "a duplicate", got.Sectors, []impl.SectorSpec{all, {Cylinder: 3, Head: 1, Number: 2, Data: "\xbe\xbd\xbc\xbb\xba\xb9\xb8\xb7"}})
	got, _ = impl.ProtectTrack(spec, impl.Feature{Kind: impl.FtForeign})
	is(t, "a foreign cylinder", got.Sectors[0].Cylinder, int64(252))
	got, _ = impl.ProtectTrack(got, impl.Feature{Kind: impl.FtForeign})
	is(t, "and back", impl.SameTrackSpec(got, spec), true)
}

func TestP12LimitsOfProtectedTracks(t *testing.T) {
	from := source(164)
	for _, format := range formats() {
		for gap := int64(1); gap <= 20; gap++ {
			for _, more := range []int64{1, 20 - gap, 21 - gap, 20, 21, impl.MaxCells} {
				if more < 1 {
					continue
				}
				for _, count := range []int64{0, 1, 8} {
					spec := from.track(format, count)
					spec.Gap = gap
					got, c := impl.ProtectTrack(spec, impl.Feature{Kind: impl.FtLong, Value: more})
					if gap+more > 20 {
						is(t, "a gap too wide", []any{got, c}, []any{impl.TrackSpec{}, int64(impl.ErrFull)})
						continue
					}
					spec.Gap = gap + more
					is(t, "a wider gap", []any{impl.SameTrackSpec(got, spec), c}, []any{true, int64(impl.OK)})
				}
			}
		}
		for count := int64(1); count <= 8; count++ {
			spec := from.track(format, count)
			for sector := int64(1); sector <= 10; sector++ {
				got, c := impl.ProtectTrack(spec, impl.Feature{Kind: impl.FtDuplicate, Sector: sector})
				want := int64(impl.ErrRange)
				if sector == count {
					want = impl.OK
					if count == 8 {
						want = impl.ErrFull
					}
				}
				code(t, "a duplicate "+strconv.FormatInt(sector, 10)+" of "+strconv.FormatInt(count, 10), c, want)
				is(t, "sectors", len(got.Sectors), map[int64]int{impl.OK: int(count) + 1}[want])
			}
		}
	}
}

func TestP12NoProtectedTracks(t *testing.T) {
	fails := func(spec impl.TrackSpec, f impl.Feature, want int64) {
		t.Helper()
		got, c := impl.ProtectTrack(spec, f)
		is(t, "no track with "+brief(f), []any{got, c}, []any{impl.TrackSpec{}, want})
	}
	for _, spec := range invalidTracks() {
		for _, f := range []impl.Feature{{Kind: 1, Sector: 2}, {Kind: 2}, {Kind: 3}, {Kind: 4}, {Kind: 5}, {Kind: 6}, {Kind: 7, Value: 1}, {Kind: 8, Value: 1}, {Kind: 8, Value: 30}, {Kind: 2, Sector: 60}, {}} {
			fails(spec, f, impl.ErrInvalid)
		}
	}
	for _, f := range edgeFeatures() {
		if !plainValid(f) {
			fails(sampleTrack(), f, impl.ErrInvalid)
		}
	}
	for _, sector := range []int64{0, 1, 2, 63} {
		fails(sampleTrack(), impl.Feature{Kind: impl.FtNoData, Sector: sector}, impl.ErrState)
		fails(sampleTrack(), impl.Feature{Kind: impl.FtWeak, Sector: sector, Value: 8}, impl.ErrState)
	}
	from := source(165)
	full := from.sized(impl.TfMfm, 20, 0, 0, 0, 0, 0, 0, 0, 0)
	fails(full, impl.Feature{Kind: impl.FtDuplicate, Sector: 7}, impl.ErrRange)
	fails(full, impl.Feature{Kind: impl.FtDuplicate, Sector: 9}, impl.ErrRange)
	fails(full, impl.Feature{Kind: impl.FtDuplicate, Sector: 8}, impl.ErrFull)
	fails(full, impl.Feature{Kind: impl.FtLong, Value: 1}, impl.ErrFull)
	for _, kind := range []int64{2, 3, 4, 6} {
		fails(full, impl.Feature{Kind: kind, Sector: 8}, impl.ErrRange)
		fails(impl.TrackSpec{Format: impl.TfFm, Gap: 1}, impl.Feature{Kind: kind}, impl.ErrRange)
	}
}

// A track that is protected, built and read has the features it was given, and none besides.
func TestP12ProtectedTracksHaveTheirFeatures(t *testing.T) {
	for _, format := range formats() {
		plain := impl.TrackSpec{Format: format, Gap: 4, Sectors: []impl.SectorSpec{{Cylinder: 3, Head: 1, Number: 1, Data: "abcdefgh"}, {Cylinder: 3, Head: 1, Number: 2, Size: 1, Data: "ijklmnopqrstuvwx"}}}
		nominal := impl.TrackCells(plain)
		added := []impl.Feature{{Kind: 4, Sector: 0}, {Kind: 1, Sector: 2, Value: 1}, {Kind: 2, Sector: 3}, {Kind: 4, Sector: 3}, {Kind: 6, Sector: 3}, {Kind: 3, Sector: 4}, {Kind: 1, Sector: 5}}
		spec := plain
		for _, f := range []impl.Feature{added[1], {Kind: 1, Sector: 3}, {Kind: 1, Sector: 4, Value: 1}, added[6], added[5], added[4], added[3], added[2], added[0]} {
			next, c := impl.ProtectTrack(spec, f)
			code(t, impl.FeatureText(f), c, impl.OK)
			spec = next
		}
		got, c := impl.TrackFeatures(built(t, spec), format, 3, 1, impl.MaxCells)
		featuresAre(t, "protected", got, c, added...)
		hasItsFeatures(t, spec, nominal)
		back, c := impl.PlainTrack(spec, 3, 1)
		is(t, "plain again", []any{impl.SameTrackSpec(back, plain), c}, []any{true, int64(impl.OK)})
		long, _ := impl.ProtectTrack(plain, impl.Feature{Kind: impl.FtLong, Value: 2})
		got, c = impl.TrackFeatures(built(t, long), format, 3, 1, nominal)
		featuresAre(t, "long", got, c, impl.Feature{Kind: impl.FtLong, Value: int64(6 * cellsIn(format))})
	}
}

// plainPlain follows the words of the document.
func plainPlain(spec impl.TrackSpec, cylinder, head int64) impl.TrackSpec {
	plain := impl.TrackSpec{Format: spec.Format, Gap: spec.Gap}
	for i, s := range spec.Sectors {
		keep := s.Cylinder == cylinder && s.Head == head
		for _, r := range spec.Sectors[:i] {
			keep = keep && !(r.Cylinder == s.Cylinder && r.Head == s.Head && r.Number == s.Number && r.Size == s.Size)
		}
		s.Deleted, s.BadId, s.BadData = false, false, false
		if keep {
			plain.Sectors = append(plain.Sectors, s)
		}
	}
	return plain
}

func TestP12PlainTrack(t *testing.T) {
	from := source(166)
	for _, format := range formats() {
		for range 200 {
			spec := from.crowd(format, from.below(9))
			got, c := impl.PlainTrack(spec, 3, 1)
			is(t, "plain", []any{impl.SameTrackSpec(got, plainPlain(spec, 3, 1)), c}, []any{true, int64(impl.OK)})
			features, c := impl.SpecFeatures(got, 3, 1)
			featuresAre(t, "nothing is left", features, c)
			again, _ := impl.PlainTrack(got, 3, 1)
			is(t, "and again", impl.SameTrackSpec(again, got), true)
		}
	}
	wrong := sampleSector()
	wrong.BadId, wrong.Data = true, "abcdefgh"
	spec := impl.TrackSpec{Format: impl.TfFm, Gap: 20, Sectors: []impl.SectorSpec{wrong, sampleSector(), sampleSector()}}
	got, _ := impl.PlainTrack(spec, 3, 1)
	wrong.BadId = false
	is(t, "a sector with a wrong id field counts", got, impl.TrackSpec{Format: impl.TfFm, Gap: 20, Sectors: []impl.SectorSpec{wrong}})
	features, c := impl.SpecFeatures(spec, 3, 1)
	featuresAre(t, "but not for the features", features, c, impl.Feature{Kind: 3}, impl.Feature{Kind: 1, Sector: 2, Value: 1})
	for _, r := range [][]int64{{3, 0}, {2, 1}, {1, 3}, {0, 0}, {255, 255}} {
		got, c := impl.PlainTrack(spec, r[0], r[1])
		is(t, "all are foreign", []any{len(got.Sectors), got.Gap, c}, []any{0, int64(20), int64(impl.OK)})
	}
}

func TestP12SpecFeatures(t *testing.T) {
	from := source(167)
	for range 400 {
		spec := from.crowd(impl.TfMfm, from.below(9))
		got, c := impl.SpecFeatures(spec, 3, 1)
		featuresAre(t, "as described", got, c, plainFeatures(foundOf(spec), 3, 1)...)
	}
	for flags := range 8 {
		s := sampleSector()
		s.Deleted, s.BadId, s.BadData = flags&1 > 0, flags&2 > 0, flags&4 > 0
		want := []impl.Feature{{Kind: impl.FtForeign}}
		switch {
		case s.BadId:
			want = []impl.Feature{{Kind: impl.FtBadId}}
		case s.BadData && s.Deleted:
			want = append(want, impl.Feature{Kind: impl.FtBadData}, impl.Feature{Kind: impl.FtDeleted})
		case s.BadData:
			want = append(want, impl.Feature{Kind: impl.FtBadData})
		case s.Deleted:
			want = append(want, impl.Feature{Kind: impl.FtDeleted})
		}
		got, c := impl.SpecFeatures(impl.TrackSpec{Format: impl.TfGcr, Gap: 1, Sectors: []impl.SectorSpec{s}}, 4, 1)
		featuresAre(t, "flags "+strconv.Itoa(flags), got, c, want...)
	}
	most := from.sized(impl.TfMfm, 20, 2, 2, 2, 2, 2, 2, 2, 2)
	got, c := impl.SpecFeatures(most, 3, 1)
	featuresAre(t, "a track too long to be built", got, c, plainFeatures(foundOf(most), 3, 1)...)
}

func TestP12NoPlainTracks(t *testing.T) {
	fails := func(what string, spec impl.TrackSpec, cylinder, head, want int64) {
		t.Helper()
		plain, c := impl.PlainTrack(spec, cylinder, head)
		is(t, what, []any{plain, c}, []any{impl.TrackSpec{}, want})
		got, c := impl.SpecFeatures(spec, cylinder, head)
		noFeatures(t, what, got, c, want)
	}
	for _, spec := range invalidTracks() {
		fails("no track", spec, 3, 1, impl.ErrInvalid)
		fails("no track and no cylinder", spec, -1, 1, impl.ErrInvalid)
		fails("no track and no head", spec, 3, 256, impl.ErrInvalid)
	}
	for _, n := range noBytes() {
		fails("no cylinder", sampleTrack(), n, 1, impl.ErrRange)
		fails("no head", sampleTrack(), 3, n, impl.ErrRange)
		fails("neither", impl.TrackSpec{Format: impl.TfFm, Gap: 1}, n, n, impl.ErrRange)
	}
}
