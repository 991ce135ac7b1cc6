package tests

import (
	"math"
	"math/big"
	"slices"
	"strconv"
	"strings"
	"testing"

	"loop.example/g00899/impl"
)

// plainRuns packs by runs, word by word as the document says.
func plainRuns(s string) string {
	threeEqual := func(at int) bool { return at+2 < len(s) && s[at] == s[at+1] && s[at] == s[at+2] }
	out, at := "", 0
	for at < len(s) {
		n := 0
		if threeEqual(at) {
			for at+n < len(s) && s[at+n] == s[at] && n < 64 {
				n++
			}
			out += string([]byte{byte(n + 61), s[at]})
		} else {
			for at+n < len(s) && !threeEqual(at+n) && n < 64 {
				n++
			}
			out += string([]byte{byte(n - 1)}) + s[at:at+n]
		}
		at += n
	}
	return out
}

// plainUnruns unpacks runs.
func plainUnruns(s string) (string, bool) {
	out, long := "", len(s) > 8192
	for s != "" {
		n := int(s[0])
		switch {
		case n <= 63 && len(s) >= n+2:
			out, s = out+s[1:n+2], s[n+2:]
		case n >= 64 && n <= 125 && len(s) >= 2:
			out, s = out+strings.Repeat(s[1:2], n-61), s[2:]
		default:
			return "", false
		}
	}
	if long || len(out) > 4096 {
		return "", false
	}
	return out, true
}

// plainPacked packs with references, and tries all of them.
func plainPacked(s string) string {
	out, alone := "", ""
	for at := 0; at < len(s); {
		best, back := 0, 0
		for d := 1; d <= 255 && d <= at; d++ {
			n := 0
			for n < 130 && at+n < len(s) && s[at+n] == s[at+n-d] {
				n++
			}
			if n > best {
				best, back = n, d
			}
		}
		if best < 3 {
			alone += s[at : at+1]
			at++
		} else {
			out, alone = out+plainAlone(alone), ""
			out += string([]byte{byte(best + 125), byte(back)})
			at += best
		}
	}
	return out + plainAlone(alone)
}

// plainAlone returns the parts of bytes that stand for themselves.
func plainAlone(s string) string {
	out := ""
	for len(s) > 128 {
		out, s = out+"\x7f"+s[:128], s[128:]
	}
	if s == "" {
		return out
	}
	return out + string([]byte{byte(len(s) - 1)}) + s
}

// plainUnpacked unpacks references byte by byte.
func plainUnpacked(s string) (string, bool) {
	var out []byte
	long := len(s) > 8192
	for s != "" {
		n := int(s[0])
		if n <= 127 {
			if len(s) < n+2 {
				return "", false
			}
			out, s = append(out, s[1:n+2]...), s[n+2:]
			continue
		}
		if len(s) < 2 || s[1] == 0 || int(s[1]) > len(out) {
			return "", false
		}
		for range n - 125 {
			out = append(out, out[len(out)-int(s[1])])
		}
		s = s[2:]
	}
	if long || len(out) > 4096 {
		return "", false
	}
	return string(out), true
}

// plainDeltas notes for each byte whether it begins or continues a difference.
func plainDeltas(a, b string) []impl.Delta {
	var list []impl.Delta
	inside := false
	for i := range len(a) {
		if a[i] == b[i] {
			inside = false
			continue
		}
		if !inside {
			list = append(list, impl.Delta{At: int64(i)})
		}
		list[len(list)-1].Data += b[i : i+1]
		inside = true
	}
	return list
}

// plainApplied replaces byte by byte.
func plainApplied(s string, list []impl.Delta) (string, bool) {
	if len(s) > 4096 {
		return "", false
	}
	out, next := []byte(s), 0
	for _, d := range list {
		if d.Data == "" || d.At < int64(next) || d.At > int64(len(s)) {
			return "", false
		}
		next = int(d.At)
		for i := range len(d.Data) {
			if next == len(s) {
				return "", false
			}
			out[next] = d.Data[i]
			next++
		}
	}
	return string(out), true
}

// plainNumber writes a number in groups of seven bits.
func plainNumber(n int64) string {
	if n < 128 {
		return string([]byte{byte(n)})
	}
	return string([]byte{byte(128 + n%128)}) + plainNumber(n/128)
}

func plainGaps(gaps []int64) string {
	out, before := "", int64(0)
	for _, gap := range gaps {
		if gap >= before {
			out += plainNumber(2 * (gap - before))
		} else {
			out += plainNumber(2*(before-gap) - 1)
		}
		before = gap
	}
	return out
}

// plainUngaps has numbers of any length.
func plainUngaps(s string) ([]int64, bool) {
	var gaps []int64
	gap, most := big.NewInt(0), big.NewInt(2000000)
	for s != "" {
		count := 1
		for count < len(s) && s[count-1] >= 128 {
			count++
		}
		last := s[count-1]
		if last >= 128 || last == 0 && count > 1 {
			return nil, false
		}
		n := big.NewInt(0)
		for i := count - 1; i >= 0; i-- {
			n.Add(n.Lsh(n, 7), big.NewInt(int64(s[i]%128)))
		}
		if n.Bit(0) == 1 {
			gap.Sub(gap, n.Rsh(n.Add(n, big.NewInt(1)), 1))
		} else {
			gap.Add(gap, n.Rsh(n, 1))
		}
		if gap.Sign() <= 0 || gap.Cmp(most) > 0 {
			return nil, false
		}
		gaps, s = append(gaps, gap.Int64()), s[count:]
	}
	return gaps, len(gaps) <= 4000
}

// runsAre requires that a string is packed by runs in one way, and restored.
func runsAre(t *testing.T, what, s, want string) {
	t.Helper()
	got, ok := impl.PackRuns(s)
	is(t, what+": packed", []any{got, ok}, []any{want, true})
	back, ok := impl.UnpackRuns(got)
	is(t, what+": restored", []any{back, ok}, []any{s, true})
}

// copiesAre requires that a string is packed with references in one way, and restored.
func copiesAre(t *testing.T, what, s, want string) {
	t.Helper()
	got, ok := impl.PackBytes(s)
	is(t, what+": packed", []any{got, ok}, []any{want, true})
	back, ok := impl.UnpackBytes(got)
	is(t, what+": restored", []any{back, ok}, []any{s, true})
}

// packsAs requires that a string is packed as the document says, and restored.
func packsAs(t *testing.T, what, s string) {
	t.Helper()
	runsAre(t, what+", runs", s, plainRuns(s))
	copiesAre(t, what+", references", s, plainPacked(s))
}

func unruns(t *testing.T, what, s, want string) {
	t.Helper()
	got, ok := impl.UnpackRuns(s)
	is(t, what, []any{got, ok}, []any{want, true})
}

func noRuns(t *testing.T, what, s string) {
	t.Helper()
	got, ok := impl.UnpackRuns(s)
	is(t, what, []any{got, ok}, []any{"", false})
}

func unpacks(t *testing.T, what, s, want string) {
	t.Helper()
	got, ok := impl.UnpackBytes(s)
	is(t, what, []any{got, ok}, []any{want, true})
}

func noCopies(t *testing.T, what, s string) {
	t.Helper()
	got, ok := impl.UnpackBytes(s)
	is(t, what, []any{got, ok}, []any{"", false})
}

// unpacksAs requires that both decoders accept and refuse what the document says.
func unpacksAs(t *testing.T, what, s string) {
	t.Helper()
	want, wanted := plainUnruns(s)
	got, ok := impl.UnpackRuns(s)
	if got != want || ok != wanted {
		t.Errorf("%s: runs %s: got %s %v, want %s %v", what, brief(s), brief(got), ok, brief(want), wanted)
	}
	want, wanted = plainUnpacked(s)
	got, ok = impl.UnpackBytes(s)
	if got != want || ok != wanted {
		t.Errorf("%s: references %s: got %s %v, want %s %v", what, brief(s), brief(got), ok, brief(want), wanted)
	}
}

// words returns all strings of a length with some bytes.
func words(alphabet string, length int) []string {
	list := []string{""}
	for range length {
		var longer []string
		for _, s := range list {
			for i := range len(alphabet) {
				longer = append(longer, s+alphabet[i:i+1])
			}
		}
		list = longer
	}
	return list
}

// ascending returns at most 256 bytes, each of which is greater than the one before it.
func ascending(count int) string {
	out := make([]byte, count)
	for i := range out {
		out[i] = byte(i)
	}
	return string(out)
}

// lumpy returns bytes with runs and repetitions.
func (s *source) lumpy(count int, letters int64) string {
	out := ""
	for len(out) < count {
		switch s.below(4) {
		case 0:
			out += strings.Repeat(string([]byte{byte(s.below(letters))}), 1+int(s.below(140)))
		case 1:
			if n := int64(len(out)); n > 0 {
				from := max(0, n-1-s.below(300))
				out += out[from:min(n, from+1+s.below(200))]
			}
		default:
			for range 1 + s.below(9) {
				out += string([]byte{byte(s.below(letters))})
			}
		}
	}
	return out[:count]
}

func TestP15Constants(t *testing.T) {
	is(t, "limits", []int64{impl.MaxPlain, impl.MaxPacked, impl.MaxRun, impl.MaxBack}, []int64{4096, 8192, 64, 255})
}

func TestP15PackedByHand(t *testing.T) {
	runsAre(t, "example", "aaaab", "\x41a\x00b")
	copiesAre(t, "example", "abcabcabc", "\x02abc\x83\x03")
	runsAre(t, "nothing", "", "")
	copiesAre(t, "nothing", "", "")
	runsAre(t, "one", "a", "\x00a")
	copiesAre(t, "one", "a", "\x00a")
	runsAre(t, "two equal", "aa", "\x01aa")
	copiesAre(t, "two equal", "aa", "\x01aa")
	runsAre(t, "three equal", "aaa", "\x40a")
	copiesAre(t, "three equal", "aaa", "\x02aaa")
	copiesAre(t, "four equal", "aaaa", "\x00a\x80\x01")
	runsAre(t, "no three are equal", "aabbaab", "\x06aabbaab")
	runsAre(t, "three after two others", "bbaaa", "\x01bb\x40a")
	runsAre(t, "runs one after the other", "aaabbbbccc", "\x40a\x41b\x40c")
	runsAre(t, "zero bytes", "\x00\x00\x00\x00\xff", "\x41\x00\x00\xff")
	copiesAre(t, "two bytes are too few", "abXab", "\x04abXab")
	copiesAre(t, "three bytes", "abcXabc", "\x03abcX\x80\x04")
	copiesAre(t, "the nearest of several", "abc-abc+abc", "\x03abc-\x80\x04\x00+\x80\x04")
	copiesAre(t, "the longest is not the nearest", "abcdXabcYabcd", "\x04abcdX\x80\x05\x00Y\x81\x09")
	copiesAre(t, "not the best ending, but the first beginning", "abcXbcdeYabcde", "\x08abcXbcdeY\x80\x09\x01de")
	copiesAre(t, "after a reference it goes on at once", "abcabcdefdef", "\x02abc\x80\x03\x02def\x80\x03")
	copiesAre(t, "a reference to the inside of another one", "aaaaaaabaaaab", "\x00a\x83\x01\x00b\x82\x05")
}

func TestP15ShortStrings(t *testing.T) {
	for length, alphabet := range []string{"", allBytes(), allBytes(), "\x00\x01@\x7f\x80\xff"} {
		for _, s := range words(alphabet, length) {
			packsAs(t, "short "+strconv.Quote(s), s)
		}
	}
	for length := range 11 {
		for _, s := range words("ab", length) {
			packsAs(t, "two letters "+s, s)
		}
	}
	for _, s := range words("abc", 8) {
		packsAs(t, "three letters "+s, s)
	}
}

func TestP15LongestRuns(t *testing.T) {
	for count, want := range map[int]string{2: "\x01aa", 3: "\x40a", 4: "\x41a", 63: "\x7ca", 64: "\x7da", 65: "\x7da\x00a", 66: "\x7da\x01aa", 67: "\x7da\x40a", 128: "\x7da\x7da", 129: "\x7da\x7da\x00a", 130: "\x7da\x7da\x01aa", 131: "\x7da\x7da\x40a"} {
		runsAre(t, "equal bytes "+strconv.Itoa(count), strings.Repeat("a", count), want)
	}
	runsAre(t, "what is left of a run stands for itself, with what follows", strings.Repeat("a", 66)+"bc", "\x7da\x03aabc")
	runsAre(t, "and what follows may be a run", strings.Repeat("a", 65)+"bbb", "\x7da\x00a\x40b")
	for count := range 300 {
		run := strings.Repeat("x", count)
		for _, s := range []string{run, "y" + run, run + "y", "yy" + run + "zz", run + "yyy" + run} {
			packsAs(t, "run "+strconv.Itoa(count), s)
		}
	}
}

func TestP15BytesThatStandForThemselves(t *testing.T) {
	s := ascending(256)
	for count, want := range map[int]string{1: "\x00" + s[:1], 63: "\x3e" + s[:63], 64: "\x3f" + s[:64], 65: "\x3f" + s[:64] + "\x00" + s[64:65], 128: "\x3f" + s[:64] + "\x3f" + s[64:128], 129: "\x3f" + s[:64] + "\x3f" + s[64:128] + "\x00" + s[128:129]} {
		runsAre(t, "other bytes "+strconv.Itoa(count), s[:count], want)
	}
	for count, want := range map[int]string{64: "\x3f" + s[:64], 65: "\x40" + s[:65], 127: "\x7e" + s[:127], 128: "\x7f" + s[:128], 129: "\x7f" + s[:128] + "\x00" + s[128:129], 256: "\x7f" + s[:128] + "\x7f" + s[128:], 255: "\x7f" + s[:128] + "\x7e" + s[128:255]} {
		copiesAre(t, "other bytes "+strconv.Itoa(count), s[:count], want)
	}
	for count := range 257 {
		for _, what := range []string{s[:count], s[:count] + "zzz", "zzz" + s[:count], s[:count] + s[:count], s[:count] + "zzzz" + s[:count]} {
			packsAs(t, "other bytes "+strconv.Itoa(count), what)
		}
	}
}

func TestP15LongestReferences(t *testing.T) {
	for count, want := range map[int]string{3: "\x02aaa", 4: "\x00a\x80\x01", 5: "\x00a\x81\x01", 130: "\x00a\xfe\x01", 131: "\x00a\xff\x01", 132: "\x00a\xff\x01\x00a", 133: "\x00a\xff\x01\x01aa", 134: "\x00a\xff\x01\x80\x01", 261: "\x00a\xff\x01\xff\x01"} {
		copiesAre(t, "equal bytes "+strconv.Itoa(count), strings.Repeat("a", count), want)
	}
	s := ascending(256)
	for _, count := range []int{3, 4, 129, 130} {
		copiesAre(t, "one reference of "+strconv.Itoa(count), s[:140]+s[:count], "\x7f"+s[:128]+"\x0b"+s[128:140]+string([]byte{byte(count + 125), 140}))
	}
	copiesAre(t, "one byte more", s[:140]+s[:131], "\x7f"+s[:128]+"\x0b"+s[128:140]+"\xff\x8c\x00"+s[130:131])
	copiesAre(t, "two references", s[:140]+s[:133], "\x7f"+s[:128]+"\x0b"+s[128:140]+"\xff\x8c\x80\x8c")
	copiesAre(t, "255 places before", s[:255]+s[:3], "\x7f"+s[:128]+"\x7e"+s[128:255]+"\x80\xff")
	copiesAre(t, "256 places are too many", s[:256]+s[:3], "\x7f"+s[:128]+"\x7f"+s[128:256]+"\x02"+s[:3])
	// A copy that is longer by one byte counts as long as it is not too far away.
	others := s[101:] + s[:97]
	lead := "\x7fabcd" + others[:124] + "\x4b" + others[124:200] + "\x80\xcc"
	copiesAre(t, "the longer one", "abcd"+others[:200]+"abc"+others[200:248]+"abcd", lead+"\x2f"+others[200:248]+"\x81\xff")
	copiesAre(t, "the nearer one", "abcd"+others[:200]+"abc"+others[200:249]+"abcd", lead+"\x30"+others[200:249]+"\x80\x34\x00d")
	for count := range 257 {
		packsAs(t, "repeated "+strconv.Itoa(count), s[:count]+s[:min(count, 200)])
		packsAs(t, "repeated behind others "+strconv.Itoa(count), "abcd"+strings.Repeat("-", 3)+s[:count]+"abcde"+"abc")
	}
}

func TestP15PackedStringsAreRestored(t *testing.T) {
	from := source(220)
	for i := range 600 {
		count := int(from.below(700))
		if i%20 == 0 {
			count = int(from.below(4097))
		}
		for _, letters := range []int64{2, 3, 20, 256} {
			packsAs(t, "lumpy "+strconv.Itoa(i), from.lumpy(count, letters))
		}
		packsAs(t, "random "+strconv.Itoa(i), from.bytes(count))
	}
}

func TestP15LongestStrings(t *testing.T) {
	from := source(221)
	for _, s := range []string{strings.Repeat("a", 4096), strings.Repeat("ab", 2048), strings.Repeat("aab", 1366)[:4096], strings.Repeat("aaab", 1024), from.bytes(4096), from.lumpy(4096, 3), strings.Repeat("\x00", 4096)} {
		packsAs(t, "longest", s)
		for _, long := range []string{s + s[:1], s + s, s + "\x00\x00\x00"} {
			got, ok := impl.PackRuns(long)
			is(t, "too long for runs", []any{got, ok}, []any{"", false})
			got, ok = impl.PackBytes(long)
			is(t, "too long for references", []any{got, ok}, []any{"", false})
		}
	}
}

func TestP15LongestResults(t *testing.T) {
	runs, plain := strings.Repeat("\x7da", 64), strings.Repeat("a", 4096)
	unruns(t, "4096 bytes of runs", runs, plain)
	noRuns(t, "a byte more", runs+"\x00a")
	noRuns(t, "three bytes more", runs+"\x40a")
	unruns(t, "the last part ends there", strings.Repeat("\x7da", 63)+"\x3c"+plain[:61]+"\x40b", plain[:4093]+"bbb")
	noRuns(t, "it ends a byte behind", strings.Repeat("\x7da", 63)+"\x3d"+plain[:62]+"\x40b")
	noRuns(t, "it ends 61 bytes behind", strings.Repeat("\x7da", 63)+"\x3c"+plain[:61]+"\x7db")
	copies := "\x00a" + strings.Repeat("\xff\x01", 31)
	unpacks(t, "4031 bytes of references", copies, plain[:4031])
	unpacks(t, "4096 bytes of references", copies+"\xbe\x01", plain)
	noCopies(t, "a byte more", copies+"\xbf\x01")
	noCopies(t, "a byte more that stands for itself", copies+"\xbe\x01\x00a")
	unpacks(t, "the last byte stands for itself", copies+"\xbd\x01\x00b", plain[:4095]+"b")
	single := strings.Repeat("\x00b", 4096)
	unruns(t, "8192 packed bytes", single, strings.Repeat("b", 4096))
	unpacks(t, "8192 packed bytes", single, strings.Repeat("b", 4096))
	for _, more := range []string{"\x00", "\x00b", "\x7f", "\x40b", "\x80\x01"} {
		noRuns(t, "more packed bytes", single+more)
		noCopies(t, "more packed bytes", single+more)
	}
	noRuns(t, "too many parts", strings.Repeat("\x7da", 5000))
	noCopies(t, "too many references", "\x00a"+strings.Repeat("\xff\x01", 5000))
}

func TestP15FirstBytesOfParts(t *testing.T) {
	behind := ascending(140)
	for n := range 256 {
		first := string([]byte{byte(n)})
		switch {
		case n <= 63:
			unruns(t, "stand for themselves", first+behind[:n+1], behind[:n+1])
			noRuns(t, "incomplete", first+behind[:n])
			noRuns(t, "nothing behind it", first)
		case n <= 125:
			unruns(t, "equal bytes", first+"x", strings.Repeat("x", n-61))
			noRuns(t, "nothing behind it", first)
			noRuns(t, "nothing behind it, after others", "\x00a"+first)
		default:
			noRuns(t, "no part", first)
			noRuns(t, "no part, with a byte", first+"x")
			noRuns(t, "no part, after others", "\x40a"+first+behind)
		}
		if n <= 127 {
			unpacks(t, "stand for themselves", first+behind[:n+1], behind[:n+1])
			noCopies(t, "incomplete", first+behind[:n])
		} else {
			unpacks(t, "reference", "\x01xy"+first+"\x02", strings.Repeat("xy", 70)[:2+n-125])
			noCopies(t, "incomplete", "\x01xy"+first)
			noCopies(t, "nothing before it", first+"\x01")
		}
		for count := range len(behind) {
			unpacksAs(t, "first byte "+strconv.Itoa(n), first+behind[:count])
			unpacksAs(t, "first byte behind others "+strconv.Itoa(n), "\x02aaa"+first+behind[:count])
		}
	}
}

func TestP15PlacesOfReferences(t *testing.T) {
	all := ascending(256)
	lead := "\x7f" + all[:128] + "\x7f" + all[128:]
	for d := range 256 {
		for _, count := range []int{3, 4, 64, 129, 130} {
			part := string([]byte{byte(count + 125), byte(d)})
			if d == 0 {
				noCopies(t, "no places before", lead+part)
				continue
			}
			unpacks(t, "places before "+strconv.Itoa(d), lead+part, all+strings.Repeat(all[256-d:], 130/d+1)[:count])
		}
	}
	for count := 1; count <= 128; count++ {
		lead := string([]byte{byte(count - 1)}) + all[:count]
		for _, d := range []int{0, count - 1, count, count + 1, 255} {
			unpacksAs(t, "beginning "+strconv.Itoa(count), lead+string([]byte{128, byte(d)}))
		}
		unpacks(t, "from the beginning on", lead+string([]byte{255, byte(count)}), all[:count]+strings.Repeat(all[:count], 130)[:130])
		noCopies(t, "beyond the beginning", lead+string([]byte{128, byte(count + 1)}))
	}
	unpacks(t, "it goes on with what it made", "\x02abc\x87\x01\x81\x02", "abc"+"cccccccccc"+"cccc")
	unpacks(t, "of two bytes", "\x01ab\x82\x02\x00c\x80\x03", "ab"+"ababa"+"c"+"bac")
	noCopies(t, "at the very beginning", "\x80\x01")
	noCopies(t, "beyond the beginning of references", "\x00a\x80\x01\x80\x05")
	unpacks(t, "to the beginning of references", "\x00a\x80\x01\x80\x04", "aaaaaaa")
}

func TestP15PackedInAnotherWay(t *testing.T) {
	unruns(t, "single bytes", "\x00a\x00a\x00a", "aaa")
	unruns(t, "equal bytes that stand for themselves", "\x03aaaa\x40a", "aaaaaaa")
	unpacks(t, "single bytes", "\x00a\x00b", "ab")
	unpacks(t, "a farther reference", "\x05abcabc\x80\x06\x81\x03", "abcabcabcabca")
}

func TestP15OtherPackedStrings(t *testing.T) {
	for length := range 6 {
		for _, s := range words("\x00\x01\x40\x7d\x7e\x80", length) {
			unpacksAs(t, "few bytes", s)
		}
	}
	from := source(222)
	for range 1500 {
		plain := from.lumpy(int(from.below(200)), 5)
		for _, s := range []string{plainRuns(plain), plainPacked(plain)} {
			changed := []byte(s)
			for range from.below(4) {
				if len(changed) > 0 {
					changed[from.below(int64(len(changed)))] = byte(from.below(256))
				}
			}
			unpacksAs(t, "changed", string(changed))
			unpacksAs(t, "cut off", s[:from.below(int64(len(s)+1))])
		}
		unpacksAs(t, "random", from.bytes(int(from.below(20))))
	}
}

// differ requires the differences of two strings, and that they lead from the first to the second one.
func differ(t *testing.T, what, a, b string, want ...impl.Delta) {
	t.Helper()
	list, ok := impl.DeltasOf(a, b)
	is(t, what, []any{append([]impl.Delta{}, list...), ok}, []any{append([]impl.Delta{}, want...), true})
	back, ok := impl.ApplyDeltas(a, list)
	is(t, what+": applied", []any{back, ok}, []any{b, true})
}

func TestP15DeltasByHand(t *testing.T) {
	differ(t, "example", "abcdef", "aXYdeZ", impl.Delta{At: 1, Data: "XY"}, impl.Delta{At: 5, Data: "Z"})
	differ(t, "nothing", "", "")
	differ(t, "in no byte", "abc", "abc")
	differ(t, "all bytes", "abc", "xyz", impl.Delta{At: 0, Data: "xyz"})
	differ(t, "the only byte", "a", "b", impl.Delta{At: 0, Data: "b"})
	differ(t, "the first one", "abc", "xbc", impl.Delta{At: 0, Data: "x"})
	differ(t, "the last one", "abc", "abx", impl.Delta{At: 2, Data: "x"})
	differ(t, "both ends", "abc", "xbz", impl.Delta{At: 0, Data: "x"}, impl.Delta{At: 2, Data: "z"})
	differ(t, "each second one", "aaaaaa", "abacad", impl.Delta{At: 1, Data: "b"}, impl.Delta{At: 3, Data: "c"}, impl.Delta{At: 5, Data: "d"})
	differ(t, "bytes of any value", "\x00\xff\x80", "\xff\xff\x00", impl.Delta{At: 0, Data: "\xff"}, impl.Delta{At: 2, Data: "\x00"})
	long := strings.Repeat("a", 4096)
	differ(t, "all of the longest", long, strings.Repeat("b", 4096), impl.Delta{At: 0, Data: strings.Repeat("b", 4096)})
	differ(t, "the last one of the longest", long, long[:4095]+"b", impl.Delta{At: 4095, Data: "b"})
}

func TestP15DeltasOfAnyStrings(t *testing.T) {
	for length := range 6 {
		for _, a := range words("ab", length) {
			for _, b := range words("ab", length) {
				differ(t, "few bytes", a, b, plainDeltas(a, b)...)
			}
		}
	}
	from := source(223)
	for i := range 300 {
		count := int(from.below(200))
		if i%30 == 0 {
			count = int(from.below(4097))
		}
		a, b := from.lumpy(count, 2+from.below(9)), from.lumpy(count, 2+from.below(9))
		differ(t, "any bytes", a, b, plainDeltas(a, b)...)
	}
}

func TestP15NoDeltas(t *testing.T) {
	long := strings.Repeat("a", 4097)
	for _, pair := range [][2]string{{"", "a"}, {"a", ""}, {"ab", "abc"}, {"abc", "ab"}, {long, long}, {long, long[1:]}, {long[1:], long}, {long, strings.Repeat("b", 4097)}, {long + "a", long + "b"}} {
		list, ok := impl.DeltasOf(pair[0], pair[1])
		is(t, "no deltas", []any{len(list), ok}, []any{0, false})
	}
}

// appliedIs requires what a list makes of a string, or that it is refused.
func appliedIs(t *testing.T, what, s, want string, wanted bool, list ...impl.Delta) {
	t.Helper()
	got, ok := impl.ApplyDeltas(s, list)
	is(t, what, []any{got, ok}, []any{want, wanted})
}

func TestP15AppliedByHand(t *testing.T) {
	delta := func(at int64, data string) impl.Delta { return impl.Delta{At: at, Data: data} }
	appliedIs(t, "nothing", "abc", "abc", true)
	appliedIs(t, "nothing of nothing", "", "", true)
	appliedIs(t, "the same bytes", "abc", "abc", true, delta(0, "abc"))
	appliedIs(t, "all bytes", "abc", "xyz", true, delta(0, "xyz"))
	appliedIs(t, "they touch", "abcdef", "aWXYZf", true, delta(1, "WX"), delta(3, "YZ"))
	appliedIs(t, "from the beginning to the end", "abcd", "WXYZ", true, delta(0, "W"), delta(1, "XY"), delta(3, "Z"))
	appliedIs(t, "they cross", "abcdef", "", false, delta(1, "WX"), delta(2, "YZ"))
	appliedIs(t, "they have the same place", "abcdef", "", false, delta(1, "W"), delta(1, "Y"))
	appliedIs(t, "they descend", "abcdef", "", false, delta(3, "W"), delta(1, "Y"))
	appliedIs(t, "one lies within the other", "abcdef", "", false, delta(1, "VWXY"), delta(2, "Z"))
	appliedIs(t, "without data", "abc", "", false, delta(1, ""))
	appliedIs(t, "without data at the end", "abc", "", false, delta(3, ""))
	appliedIs(t, "without data, between others", "abcdef", "", false, delta(0, "x"), delta(2, ""), delta(4, "y"))
	appliedIs(t, "without data, of nothing", "", "", false, delta(0, ""))
	appliedIs(t, "up to the end", "abc", "axy", true, delta(1, "xy"))
	appliedIs(t, "beyond the end", "abc", "", false, delta(1, "xyz"))
	appliedIs(t, "a byte behind the end", "abc", "", false, delta(3, "x"))
	appliedIs(t, "longer than all", "abc", "", false, delta(0, "wxyz"))
	appliedIs(t, "before the beginning", "abc", "", false, delta(-1, "xy"))
	for _, at := range []int64{-2, math.MinInt64, math.MinInt64 + 1, math.MaxInt64, math.MaxInt64 - 1, math.MaxInt64 - 2, 1 << 32, -1 << 32, 4096} {
		appliedIs(t, "no place "+strconv.FormatInt(at, 10), "abc", "", false, delta(at, "x"))
		appliedIs(t, "no place behind another one", "abc", "", false, delta(0, "x"), delta(at, "xy"))
	}
	appliedIs(t, "the first is right", "abc", "", false, delta(0, "x"), delta(3, "y"))
	long := strings.Repeat("a", 4097)
	appliedIs(t, "the longest", long[1:], long[1:4096]+"b", true, delta(4095, "b"))
	appliedIs(t, "a byte more", long, "", false, delta(0, "b"))
	appliedIs(t, "a byte more, and nothing changes", long, "", false)
	appliedIs(t, "data of a byte more", long[1:], "", false, delta(0, long))
}

func TestP15AppliedLists(t *testing.T) {
	from := source(224)
	applied := map[bool]int{}
	for range 3000 {
		s := from.bytes(int(from.below(16)))
		var list []impl.Delta
		for at := int64(0); at < 12 && from.below(4) > 0; {
			d := impl.Delta{At: at + from.below(4) - from.below(8)/7, Data: from.bytes(int(min(3, from.below(12))))}
			list = append(list, d)
			at = d.At + int64(len(d.Data))
		}
		want, wanted := plainApplied(s, list)
		appliedIs(t, "list", s, want, wanted, list...)
		if len(list) > 1 {
			applied[wanted]++
		}
	}
	is(t, "some lists are applied, and some are not", []bool{applied[true] > 100, applied[false] > 100}, []bool{true, true})
}

// gapsAre requires that gaps are packed in one way, and restored.
func gapsAre(t *testing.T, what string, gaps []int64, want string) {
	t.Helper()
	got, ok := impl.PackGaps(gaps)
	is(t, what+": packed", []any{got, ok}, []any{want, true})
	back, ok := impl.UnpackGaps(got)
	is(t, what+": restored", []any{append([]int64{}, back...), ok}, []any{append([]int64{}, gaps...), true})
}

func noGaps(t *testing.T, what, s string) {
	t.Helper()
	got, ok := impl.UnpackGaps(s)
	is(t, what, []any{len(got), ok}, []any{0, false})
}

func TestP15GapsByHand(t *testing.T) {
	gapsAre(t, "example", []int64{100, 98, 300}, "\xc8\x01\x03\x94\x03")
	gapsAre(t, "nothing", nil, "")
	gapsAre(t, "the shortest", []int64{1}, "\x02")
	gapsAre(t, "the longest", []int64{2000000}, "\x80\x92\xf4\x01")
	gapsAre(t, "the same again", []int64{63, 63, 63}, "\x7e\x00\x00")
	gapsAre(t, "one byte and two", []int64{63, 127, 63, 128}, "\x7e\x80\x01\x7f\x82\x01")
	gapsAre(t, "up and down", []int64{1, 2000000, 1}, "\x02\xfe\x91\xf4\x01\xfd\x91\xf4\x01")
	gapsAre(t, "three bytes", []int64{8191, 8192, 16384}, "\xfe\x7f\x02\x80\x80\x01")
	gapsAre(t, "down by one", []int64{5, 4, 3}, "\x0a\x01\x01")
}

func TestP15GapsAreRestored(t *testing.T) {
	edges := []int64{1, 2, 31, 32, 33, 63, 64, 65, 127, 128, 129, 8191, 8192, 8193, 16383, 16384, 16385, 1048575, 1048576, 1048577, 1999999, 2000000}
	for _, a := range edges {
		gapsAre(t, "one", []int64{a}, plainGaps([]int64{a}))
		for _, b := range edges {
			gapsAre(t, "three", []int64{a, b, a}, plainGaps([]int64{a, b, a}))
		}
	}
	from := source(225)
	for range 300 {
		gaps, most := []int64{}, int64(1)<<(1+from.below(20))
		for range from.below(100) {
			gaps = append(gaps, 1+from.below(most))
		}
		gapsAre(t, "any gaps", gaps, plainGaps(gaps))
	}
	f, _ := impl.FluxOf(from.cells(3000, 3), 20)
	gapsAre(t, "flux", f.Gaps, plainGaps(f.Gaps))
}

func TestP15MostGaps(t *testing.T) {
	for _, gaps := range [][]int64{ones(4000, 1), ones(4000, 2000000), slices.Repeat([]int64{1, 2000000}, 2000)} {
		gapsAre(t, "4000 gaps", gaps, plainGaps(gaps))
		got, ok := impl.PackGaps(append(slices.Clone(gaps), 1))
		is(t, "one more", []any{got, ok}, []any{"", false})
		noGaps(t, "one more", plainGaps(append(slices.Clone(gaps), gaps[3999])))
	}
	noGaps(t, "many more", "\x02"+strings.Repeat("\x00", 100000))
}

func TestP15NoGaps(t *testing.T) {
	for _, gap := range []int64{0, -1, 2000001, 2000002, 1 << 32, 1<<32 + 1, math.MinInt64, math.MinInt64 + 1, math.MaxInt64} {
		for _, gaps := range [][]int64{{gap}, {5, gap}, {gap, 5}, {5, gap, 5}, {gap, gap}} {
			got, ok := impl.PackGaps(gaps)
			is(t, "no gaps", []any{got, ok}, []any{"", false})
		}
	}
	for what, s := range map[string]string{
		"a gap of 0": "\x00", "a gap of 0 behind another one": "\x0a\x09", "a negative gap": "\x01", "a negative gap behind another one": "\x0a\x0b",
		"a gap too long": "\x82\x92\xf4\x01", "a gap too long behind another one": "\x80\x92\xf4\x01\x02", "a step that is too great": "\x80\x92\xf4\x01\xff\x91\xf4\x01",
		"an incomplete number": "\x80", "an incomplete number behind another one": "\x0a\x81", "an incomplete long number": "\xff\xff\xff", "nothing but more": strings.Repeat("\xff", 30),
		"a last byte of 0": "\x80\x00", "a last byte of 0 of a number that is not": "\x82\x00", "a last byte of 0, two bytes later": "\x82\x80\x00", "far later": "\x82" + strings.Repeat("\x80", 20) + "\x00", "behind another number": "\x0a\x80\x00", "as the fifth byte": "\x80\x92\xf4\x81\x00",
		"a fifth byte": "\x82\x80\x80\x80\x01", "2 to the power of 28": "\x80\x80\x80\x80\x01", "the greatest of four bytes": "\xff\xff\xff\x7f", "the greatest even one": "\xfe\xff\xff\x7f",
	} {
		noGaps(t, what, s)
	}
	// Numbers of which 64 or 32 bits alone would be a gap or no difference.
	for _, shift := range []uint{28, 31, 32, 33, 35, 49, 56, 62, 63, 64, 65, 70, 77, 128, 700} {
		for _, low := range []int64{0, 1, 2, 10} {
			n := new(big.Int).Add(new(big.Int).Lsh(big.NewInt(1), shift), big.NewInt(low))
			s := ""
			for n.BitLen() > 7 {
				s += string([]byte{byte(128 + new(big.Int).And(n, big.NewInt(127)).Int64())})
				n.Rsh(n, 7)
			}
			s += string([]byte{byte(n.Int64())})
			noGaps(t, "a number of many bits", s)
			noGaps(t, "a number of many bits behind a gap", "\x0a"+s)
			noGaps(t, "a number of many bits before a gap", s+"\x0a")
		}
	}
}

// ungapsAs requires that gaps are found where the document says so.
func ungapsAs(t *testing.T, what, s string) {
	t.Helper()
	want, wanted := plainUngaps(s)
	if !wanted {
		want = nil
	}
	got, ok := impl.UnpackGaps(s)
	if !slices.Equal(got, want) || ok != wanted {
		t.Errorf("%s %s: got %v %v, want %v %v", what, brief(s), got, ok, want, wanted)
	}
	if !ok {
		return
	}
	again, ok := impl.PackGaps(got)
	is(t, what+": only one string has these gaps", []any{again, ok}, []any{s, true})
}

func TestP15OtherStringsOfGaps(t *testing.T) {
	for _, s := range words(allBytes(), 2) {
		ungapsAs(t, "two bytes", s)
	}
	for length := range 7 {
		for _, s := range words("\x00\x02\x7f\x80\xff", length) {
			ungapsAs(t, "few bytes", s)
		}
	}
	from := source(226)
	for range 20000 {
		s := []byte(plainGaps([]int64{1 + from.below(5000), 1 + from.below(2000000), 1 + from.below(200)}))
		s[from.below(int64(len(s)))] = byte(from.below(256))
		ungapsAs(t, "changed", string(s))
		ungapsAs(t, "random", from.bytes(int(from.below(9))))
	}
}
