package store

import (
	"crypto/sha256"
	"encoding/binary"
	"encoding/hex"
	"fmt"
	"math"
	"math/rand"
	"slices"
	"strings"
	"sync"
	"testing"

	"bootchain/api"
	"bootchain/device"
)

// program is one of the two step programs, for a record and a content.
type program func(log []api.Result) (api.Access, api.Stored, bool)

func getter(rec int) program {
	return func(log []api.Result) (api.Access, api.Stored, bool) { return Get(rec, log) }
}

func putter(rec int, content string) program {
	return func(log []api.Result) (api.Access, api.Stored, bool) { return Put(rec, content, log) }
}

// filled returns n bytes that are all c.
func filled(c byte, n int) string { return strings.Repeat(string([]byte{c}), n) }

// pattern returns n bytes of many values; two patterns with different kinds differ at every place.
func pattern(kind byte, n int) string {
	b := make([]byte, n)
	for i := range b {
		b[i] = byte(i*7) + kind
	}
	return string(b)
}

// varint returns the encoding of an integer, by the standard library.
func varint(n int) string { return string(binary.AppendVarint(nil, int64(n))) }

// part returns the encoding of a byte string.
func part(s string) string { return varint(len(s)) + s }

// signed returns h followed by the digest that makes it valid for a record, if its beginning is as it should be.
func signed(rec int, h string) string {
	d := sha256.Sum256([]byte("\x05" + part(varint(rec)) + part(h)))
	return h + string(d[:16])
}

// valid returns the bytes of a valid area.
func valid(rec, seq int, content string) string { return signed(rec, varint(seq)+part(content)) }

// padded returns b with zeros up to n bytes.
func padded(b string, n int) string { return b + filled(0, n-len(b)) }

// sectors returns the results of reading an area whose bytes are b, followed by zeros.
func sectors(b string) []api.Result {
	b = padded(b, 2048)
	var l []api.Result
	for i := range 8 {
		l = append(l, api.Result{Bytes: b[256*i : 256*i+256]})
	}
	return l
}

// logOf returns the results of reading both areas.
func logOf(a, b string) []api.Result { return append(sectors(a), sectors(b)...) }

// bytesOf returns the bytes of an area that was read in several accesses.
func bytesOf(log []api.Result) string {
	var s strings.Builder
	for _, r := range log {
		s.WriteString(r.Bytes)
	}
	return s.String()
}

// otherArea returns the sequence number and the content of an area, or 0: it makes valid bytes from what the area seems to hold, and compares.
func otherArea(rec int, b string) (int, string) {
	seq, used := binary.Varint([]byte(b))
	if used <= 0 || seq < 1 || seq > 1<<40 {
		return 0, ""
	}
	size, more := binary.Varint([]byte(b[used:]))
	at := used + more
	if more <= 0 || size < 0 || size > 2000 || at+int(size) > len(b) {
		return 0, ""
	}
	content := b[at : at+int(size)]
	if !strings.HasPrefix(b, valid(rec, int(seq), content)) {
		return 0, ""
	}
	return int(seq), content
}

// otherReads returns the reads of a record.
func otherReads(rec int) []api.Access {
	var l []api.Access
	for i := range 16 {
		l = append(l, api.Access{Kind: 3, Cell: 16*rec + i})
	}
	return l
}

// otherGet returns the outcome of Get for the results of all reads, found in another way than Get finds it.
func otherGet(rec int, log []api.Result) api.Stored {
	first, a := otherArea(rec, bytesOf(log[:8]))
	second, b := otherArea(rec, bytesOf(log[8:16]))
	switch {
	case first == 0 && second == 0:
		return api.Stored{Err: 13}
	case second > first:
		return api.Stored{Content: b, Seq: second}
	}
	return api.Stored{Content: a, Seq: first}
}

// otherPut returns all accesses of Put for the results of its reads, and its outcome, found in another way than Put finds them.
func otherPut(rec int, content string, log []api.Result) ([]api.Access, api.Stored) {
	l := otherReads(rec)
	first, _ := otherArea(rec, bytesOf(log[:8]))
	second, _ := otherArea(rec, bytesOf(log[8:16]))
	sector, seq := 16*rec, max(first, second)+1
	if first > 0 && first >= second {
		sector += 8
	}
	if seq > 1<<40 {
		return l, api.Stored{Err: 19}
	}
	b := valid(rec, seq, content)
	count := (len(b) + 255) / 256
	b = padded(b, 256*count)
	l = append(l, api.Access{Kind: 4, Cell: sector, Bytes: filled(0, 256)})
	for i := 1; i < count; i++ {
		l = append(l, api.Access{Kind: 4, Cell: sector + i, Bytes: b[256*i : 256*i+256]})
	}
	l = append(l, api.Access{Kind: 4, Cell: sector, Bytes: b[:256]})
	return l, api.Stored{Content: content, Seq: seq}
}

// short describes a value, for messages.
func short(s string) string {
	if len(s) > 40 {
		return fmt.Sprintf("%q.. (%d bytes)", s[:40], len(s))
	}
	return fmt.Sprintf("%q", s)
}

func shortOut(s api.Stored) string {
	return fmt.Sprintf("{%s, sequence number %d, error %d}", short(s.Content), s.Seq, s.Err)
}

func shortAccess(a api.Access) string {
	return fmt.Sprintf("{kind %d, bank %d, cell %d, %s}", a.Kind, a.Bank, a.Cell, short(a.Bytes))
}

// stepped reports an error if a program does not return the accesses one after the other, and then the outcome, for the first results of a log; what is behind the last access does not matter.
func stepped(t *testing.T, name string, p program, log []api.Result, l []api.Access, out api.Stored) {
	t.Helper()
	before := slices.Clone(log)
	for k := range len(log) + 1 {
		a, s, done := p(log[:k])
		var wantAccess api.Access
		want := out
		if k < len(l) {
			wantAccess, want = l[k], api.Stored{}
		}
		if a != wantAccess || s != want || done != (k >= len(l)) {
			t.Errorf("%s: after %d results: %s, %s, %t, want %s, %s", name, k, shortAccess(a), shortOut(s), done, shortAccess(wantAccess), shortOut(want))
			return
		}
	}
	if !slices.Equal(log, before) {
		t.Errorf("%s: the log has changed", name)
	}
}

// got reports an error if Get does not make its reads and end with the outcome, for a log of at least all reads.
func got(t *testing.T, name string, rec int, log []api.Result, want api.Stored) {
	t.Helper()
	stepped(t, name+": Get", getter(rec), log, otherReads(rec), want)
}

// put reports an error if Put does not do what the other implementation does, for a log of all reads; the results of writes are empty.
func put(t *testing.T, name string, rec int, content string, log []api.Result) {
	t.Helper()
	l, out := otherPut(rec, content, log)
	more := make([]api.Result, len(l)-16+2)
	stepped(t, name+": Put", putter(rec, content), append(log[:16:16], more...), l, out)
}

// both reports an error if one of the programs does not do what the other implementation does, for a log of all reads.
func both(t *testing.T, name string, rec int, log []api.Result) {
	t.Helper()
	got(t, name, rec, log, otherGet(rec, log))
	put(t, name, rec, "next", log)
	put(t, name, rec, pattern(9, 600), log)
}

// areaIs reports an error if an area with these bytes does not hold what want says, be it the first or the second one, alone or beside a valid one that is older.
func areaIs(t *testing.T, name string, rec int, b string, want api.Stored) {
	t.Helper()
	got(t, name+": area 0", rec, logOf(b, ""), want)
	got(t, name+": area 1", rec, logOf("", b), want)
	both(t, name+": area 0", rec, logOf(b, ""))
	both(t, name+": area 1", rec, logOf("", b))
	old := valid(rec, 1, "old")
	both(t, name+": area 0 and an old one", rec, logOf(b, old))
	both(t, name+": area 1 and an old one", rec, logOf(old, b))
	if want.Seq == 1 {
		return
	}
	if want.Seq == 0 {
		want = api.Stored{Content: "old", Seq: 1}
	}
	got(t, name+": area 0 and an old one", rec, logOf(b, old), want)
	got(t, name+": area 1 and an old one", rec, logOf(old, b), want)
}

// notValid reports an error if an area with these bytes is taken for a valid one.
func notValid(t *testing.T, name string, rec int, b string) {
	t.Helper()
	areaIs(t, name, rec, b, api.Stored{Err: api.ErrNone})
}

// none is the outcome of Get if there is no record.
var none = api.Stored{Err: api.ErrNone}

// far are numbers that are no record and no area.
var far = []int{-1, -2, -3, -4, -8, -16, 5, 7, 8, 15, 16, 17, 63, 64, 127, 128, 255, 256, 257, 1 << 12, 1 << 16, 1<<16 + 1, 1 << 31, 1<<31 - 1, 1 << 32, 1<<32 + 1, -1 << 31, -1 << 32, 1 - 1<<32, 1 << 59, 1 << 60, 1<<60 + 1, 1 << 62, 1<<62 + 1, math.MaxInt, math.MaxInt - 1, math.MaxInt - 2, math.MinInt, math.MinInt + 1, math.MinInt + 2}

// P10.1: the first sector of every area.
func TestFirst(t *testing.T) {
	for rec, want := range [][2]int{{0, 8}, {16, 24}, {32, 40}, {48, 56}} {
		for area, first := range want {
			if n := First(rec, area); n != first {
				t.Errorf("First(%d, %d) = %d, want %d", rec, area, n, first)
			}
		}
	}
	if First(api.Records-1, 1)+api.AreaSize != api.SlotBase {
		t.Error("the areas do not end where the slots begin")
	}
}

// P10.1: a record or an area that does not exist has no first sector.
func TestFirstBad(t *testing.T) {
	for _, bad := range append([]int{4}, far...) {
		for _, area := range append([]int{0, 1, 2, 3, 4}, far...) {
			if n := First(bad, area); n != -1 {
				t.Errorf("First(%d, %d) = %d", bad, area, n)
			}
		}
	}
	for _, bad := range append([]int{2, 3, 4}, far...) {
		for _, rec := range append([]int{0, 1, 2, 3, 4}, far...) {
			if n := First(rec, bad); n != -1 {
				t.Errorf("First(%d, %d) = %d", rec, bad, n)
			}
		}
	}
}

// fixed are areas whose valid bytes were computed in another language.
var fixed = []struct {
	rec, seq int
	content  string
	b        string
}{
	{0, 1, "", "02009db0b3e47593703125d14294f8dd13c1"},
	{0, 1, "ab", "02046162c2dbdb0a3b559e68e555a97516f83c25"},
	{1, 1, "ab", "020461623aea39e20fa310bdda281c7247848f30"},
	{3, 64, "\x00", "80010200f2243a4b20a176bba167c0e25b616a7e"},
	{2, 1<<40 - 1, "xyz", "feffffffff3f0678797a8b6ad888ec96e6025107cd26a84bcca0"},
	{2, 1 << 40, "xyz", "8080808080400678797ad01a68a3af940094dbb9183c478fc649"},
	{0, 300, filled(255, 64), "d8048001" + strings.Repeat("ff", 64) + "816379f81c30b6c7facc2e6d3c7d37b9"},
	{3, 1 << 40, pattern(3, 2000), "808080808040a01f" + hex.EncodeToString([]byte(pattern(3, 2000))) + "dc1e22db57b1d4366cf967d11169825f"},
}

// P10.2: the valid bytes of some records are these, for Get and for Put.
func TestFixedBytes(t *testing.T) {
	for i, x := range fixed {
		raw, err := hex.DecodeString(x.b)
		b := string(raw)
		if err != nil || valid(x.rec, x.seq, x.content) != b {
			t.Fatalf("%d: the tests compute other valid bytes: %q, %v", i, valid(x.rec, x.seq, x.content), err)
		}
		got(t, "fixed", x.rec, logOf(b, ""), api.Stored{Content: x.content, Seq: x.seq})
		before := ""
		if x.seq > 1 {
			before = valid(x.rec, x.seq-1, "before")
		}
		log := logOf("", before)
		for range (len(b)+255)/256 + 1 {
			a, _, _ := Put(x.rec, x.content, log)
			if a.Cell == First(x.rec, 0) && a.Bytes != filled(0, 256) && a.Bytes != padded(b, 2048)[:256] {
				t.Errorf("%d: Put writes %q", i, a.Bytes)
			}
			log = append(log, api.Result{})
		}
		if _, s, done := Put(x.rec, x.content, log); s != (api.Stored{Content: x.content, Seq: x.seq}) || !done {
			t.Errorf("%d: Put = %s, %t", i, shortOut(s), done)
		}
	}
}

// P10.2: contents of every length that matters are read, in every record.
func TestContents(t *testing.T) {
	for rec := range 4 {
		for _, n := range []int{0, 1, 2, 62, 63, 64, 65, 127, 128, 236, 237, 238, 239, 255, 256, 257, 492, 493, 494, 1000, 1772, 1773, 1774, 1998, 1999, 2000} {
			for _, seq := range []int{1, 2, 1 << 40} {
				want := api.Stored{Content: pattern(byte(n), n), Seq: seq}
				got(t, "contents", rec, logOf(valid(rec, seq, want.Content), ""), want)
				got(t, "contents", rec, logOf("", valid(rec, seq, want.Content)), want)
			}
		}
	}
	for c := range 256 {
		want := api.Stored{Content: filled(byte(c), 3), Seq: 2}
		areaIs(t, fmt.Sprint("bytes ", c), 1, valid(1, 2, want.Content), want)
	}
}

// P10.2: a content that is too long is not valid, also if the digest matches and whatever the results are.
func TestTooLong(t *testing.T) {
	for _, n := range []int{2001, 2002, 2010, 2024, 2025, 2029} {
		notValid(t, fmt.Sprint("content of ", n, " bytes"), 2, valid(2, 3, pattern(1, n)))
	}
	for _, n := range []int{2001, 2029, 2030, 2031, 2048, 2049, 4000, 1 << 16, 1 << 20} {
		b := valid(2, 3, pattern(1, n))
		log := make([]api.Result, 16)
		log[0].Bytes = b
		got(t, "long", 2, log, none)
		log[15].Bytes = b
		got(t, "long", 2, log, none)
		log[8].Bytes = valid(2, 1, "old")
		got(t, "long", 2, log, api.Stored{Content: "old", Seq: 1})
		both(t, "long", 2, log)
	}
}

// P10.2: sequence numbers from 1 to 2^40 are valid.
func TestSeq(t *testing.T) {
	for _, seq := range []int{1, 2, 3, 63, 64, 65, 8191, 8192, 1<<20 - 1, 1 << 20, 1 << 31, 1<<32 + 1, 1<<40 - 2, 1<<40 - 1, 1 << 40} {
		for rec := range 4 {
			areaIs(t, fmt.Sprint("sequence number ", seq), rec, valid(rec, seq, "s"), api.Stored{Content: "s", Seq: seq})
		}
	}
	for _, seq := range []int{0, -1, -2, -64, -65, -1 << 40, -1<<40 + 1, 1<<40 + 1, 1<<40 + 2, 1 << 41, 1 << 62, 1<<62 + 1, math.MaxInt, math.MinInt, math.MinInt + 1} {
		for rec := range 4 {
			notValid(t, fmt.Sprint("sequence number ", seq), rec, valid(rec, seq, "s"))
		}
	}
}

// shapes are beginnings of areas that are not canonical, or that promise more than there is; each of them gets the digest that matches it.
var shapes = []struct{ name, h string }{
	{"nothing", ""},
	{"no content", "\x04"},
	{"a sequence number in two bytes", "\x84\x00" + "\x04ab"},
	{"a sequence number in three bytes", "\x84\x80\x00" + "\x04ab"},
	{"a sequence number in ten bytes", "\x84\x80\x80\x80\x80\x80\x80\x80\x80\x00" + "\x04ab"},
	{"a sequence number in eleven bytes", "\x84\x80\x80\x80\x80\x80\x80\x80\x80\x80\x00" + "\x04ab"},
	{"a sequence number of more than 64 bits", "\x84\x80\x80\x80\x80\x80\x80\x80\x80\x02" + "\x04ab"},
	{"a sequence number of zero in two bytes", "\x80\x00" + "\x04ab"},
	{"a length in two bytes", "\x04" + "\x84\x00ab"},
	{"a length in ten bytes", "\x04" + "\x84\x80\x80\x80\x80\x80\x80\x80\x80\x00ab"},
	{"a length of zero in two bytes", "\x04" + "\x80\x00"},
	{"a length of more than 64 bits", "\x04" + "\x84\x80\x80\x80\x80\x80\x80\x80\x80\x02ab"},
	{"a negative length", "\x04" + "\x01ab"},
	{"a negative length of two bytes", "\x04" + "\x03ab"},
	{"the least length", "\x04" + varint(math.MinInt) + "ab"},
	{"the greatest length", "\x04" + varint(math.MaxInt) + "ab"},
	{"a length beyond the area", "\x04" + varint(1999) + "ab"},
	{"a great length", "\x04" + varint(1<<31) + "ab"},
	{"a content without a length", "\x04ab"},
	{"the length before the sequence number", "\x04\x02ab"},
	{"the content before the sequence number", "\x04ab\x04"},
	{"one byte too many", "\x04\x04abc"},
	{"one byte too few", "\x04\x04a"},
}

// P10.2: what is not the canonical encoding of a sequence number and a content is not valid, with the digest of it.
func TestNotCanonical(t *testing.T) {
	for rec := range 4 {
		for _, x := range shapes {
			notValid(t, x.name, rec, signed(rec, x.h))
		}
	}
	areaIs(t, "the canonical encoding", 1, signed(1, "\x04\x04ab"), api.Stored{Content: "ab", Seq: 2})
}

// P10.2: the digest is the one of this record and of all bytes before it, with the right tag and parts.
func TestDigest(t *testing.T) {
	h := "\x04\x04ab"
	sum := func(s string) string {
		d := sha256.Sum256([]byte(s))
		return string(d[:])
	}
	for i, d := range []string{
		"", filled(0, 16), filled(255, 16), sum(h), sum(part(h)), sum("\x05" + h), sum("\x05" + part(h)), sum("\x05" + part("\x02") + h), sum("\x05\x02" + part(h)),
		sum("\x04" + part("\x02") + part(h)), sum("\x06" + part("\x02") + part(h)), sum("\x05" + part(h) + part("\x02")), sum("\x05" + part("\x01") + part(h)), sum("\x05" + part("1") + part(h)),
		sum("\x05" + part("\x02") + part("ab")), sum("\x05" + part("\x02") + part("\x04ab")), sum("\x05" + part("\x02") + part(h+"\x00")), sum("\x05" + part("\x02\x04") + part("\x04ab")), sum("\x05" + part("\x02") + part(h))[16:],
	} {
		notValid(t, fmt.Sprint("digest ", i), 1, h+d)
	}
	areaIs(t, "digest", 1, h+sum("\x05" + part("\x02") + part(h))[:16], api.Stored{Content: "ab", Seq: 2})
}

// P10.2: an area that is valid for one record is not valid for another one.
func TestOtherRecord(t *testing.T) {
	for rec := range 4 {
		for _, other := range []int{-4, -3, -2, -1, 0, 1, 2, 3, 4, 5, 7, 8, 64, 256, 1 << 32} {
			want := none
			if rec == other {
				want = api.Stored{Content: "ab", Seq: 2}
			}
			areaIs(t, fmt.Sprint("record ", other), rec, valid(other, 2, "ab"), want)
		}
	}
}

// P10.2: one bit that differs makes an area invalid, if it is not behind the digest.
func TestBits(t *testing.T) {
	for _, content := range []string{"", "ab", filled(0, 70), pattern(5, 300)} {
		b := valid(3, 64, content)
		for i := range 8 * 330 {
			changed := []byte(padded(b, 2048))
			changed[i/8] ^= 1 << (i % 8)
			want := none
			if i/8 >= len(b) {
				want = api.Stored{Content: content, Seq: 64}
			}
			if _, s, _ := Get(3, logOf(string(changed), "")); s != want {
				t.Errorf("content %s, bit %d of byte %d: %s", short(content), i%8, i/8, shortOut(s))
			}
			if _, s, _ := Get(3, logOf(valid(3, 9, "old"), string(changed))); want == none && s != (api.Stored{Content: "old", Seq: 9}) {
				t.Errorf("content %s, bit %d of byte %d beside an old area: %s", short(content), i%8, i/8, shortOut(s))
			}
		}
	}
}

// P10.2: an area that is cut off at any place is not valid, be it followed by nothing, by zeros or by other bytes.
func TestCutOff(t *testing.T) {
	for _, content := range []string{"", "ab", filled(0, 70), pattern(5, 300)} {
		b := valid(3, 64, content)
		for n := range b {
			log := make([]api.Result, 16)
			log[0].Bytes = b[:n]
			got(t, fmt.Sprint("cut off after ", n), 3, log, none)
			got(t, fmt.Sprint("zeros after ", n), 3, logOf(b[:n], ""), otherGet(3, logOf(b[:n], "")))
			other := []byte(padded(b[:n], 2048))
			for i := n; i < len(other); i++ {
				other[i] = 255 - padded(b, 2048)[i]
			}
			got(t, fmt.Sprint("other bytes after ", n), 3, logOf("", string(other)), none)
		}
	}
}

// P10.2: bytes behind the digest are ignored, in the same sector and in the others, few and many.
func TestAfterDigest(t *testing.T) {
	for _, content := range []string{"", "ab", pattern(5, 237), pattern(5, 600), pattern(5, 2000)} {
		b := valid(0, 7, content)
		want := api.Stored{Content: content, Seq: 7}
		for _, after := range []string{"\x00", "\x80", filled(255, 24), filled(255, 2048-len(b)), padded(valid(0, 8, "")+"x", 2048)[:2048-len(b)], b[:min(len(b), 2048-len(b))]} {
			if len(b)+len(after) <= 2048 {
				areaIs(t, "bytes after the digest", 0, b+after, want)
			}
		}
	}
}

// P10.2: areas without anything, and areas whose bytes are all the same, are not valid.
func TestUniform(t *testing.T) {
	for rec := range 4 {
		for c := range 256 {
			b := filled(byte(c), 2048)
			got(t, fmt.Sprint("bytes ", c), rec, logOf(b, b), none)
		}
		notValid(t, "zeros", rec, filled(0, 2048))
		both(t, "no bytes", rec, make([]api.Result, 16))
		got(t, "no bytes", rec, make([]api.Result, 16), none)
	}
}

// seqs are sequence numbers of two areas; 0 stands for an area that is not valid.
func seqs() [][2]int {
	l := []int{0, 1, 2, 3, 63, 64, 65, 255, 256, 1<<32 - 1, 1 << 32, 1<<32 + 1, 1<<40 - 2, 1<<40 - 1, 1 << 40}
	var pairs [][2]int
	for _, a := range l {
		for _, b := range l {
			pairs = append(pairs, [2]int{a, b})
		}
	}
	return pairs
}

// twoAreas returns the results of reading areas with these sequence numbers.
func twoAreas(rec int, seq [2]int) []api.Result {
	var b [2]string
	for i, content := range []string{"zero", pattern(8, 400)} {
		if seq[i] > 0 {
			b[i] = valid(rec, seq[i], content)
		}
	}
	return logOf(b[0], b[1])
}

// P10.3: Get returns the area with the greater sequence number, area 0 if they are equal, and ErrNone if none is valid.
func TestGetChoice(t *testing.T) {
	for _, seq := range seqs() {
		want := api.Stored{Content: "zero", Seq: seq[0]}
		switch {
		case seq[1] > seq[0]:
			want = api.Stored{Content: pattern(8, 400), Seq: seq[1]}
		case seq[0] == 0:
			want = none
		}
		for rec := range 4 {
			got(t, fmt.Sprint("sequence numbers ", seq), rec, twoAreas(rec, seq), want)
		}
	}
}

// P10.3: Get reads all sectors of area 0 and then those of area 1, whatever it has read before.
func TestGetReads(t *testing.T) {
	for rec := range 4 {
		for _, log := range [][]api.Result{make([]api.Result, 20), logOf(valid(rec, 1, "a"), valid(rec, 2, "b")), logOf(filled(255, 2048), filled(128, 2048)), slices.Repeat([]api.Result{{Val: 1, Bytes: valid(rec, 3, "c")}}, 17)} {
			for k := range 16 {
				a, s, done := Get(rec, log[:k])
				if a != (api.Access{Kind: api.ARead, Cell: First(rec, k/8) + k%8}) || s != (api.Stored{}) || done {
					t.Errorf("Get of the record %d after %d results = %s, %s, %t", rec, k, shortAccess(a), shortOut(s), done)
				}
			}
			if a, _, done := Get(rec, log[:16]); a != (api.Access{}) || !done {
				t.Errorf("Get of the record %d after all results = %s, %t", rec, shortAccess(a), done)
			}
		}
	}
}

// P10.4: the program ends without an access if there is no such record, whatever else is wrong, and whatever the log is.
func TestNoRecord(t *testing.T) {
	logs := [][]api.Result{nil, {}, make([]api.Result, 1), make([]api.Result, 16), make([]api.Result, 30), logOf(valid(4, 1, "a"), valid(-1, 2, "b"))}
	for _, rec := range append([]int{4}, far...) {
		for _, log := range logs {
			stepped(t, fmt.Sprint("Get of ", rec), getter(rec), log, nil, api.Stored{Err: api.ErrArg})
			for _, n := range []int{0, 1, 2000, 2001, 5000} {
				stepped(t, fmt.Sprint("Put of ", rec), putter(rec, filled(1, n)), log, nil, api.Stored{Err: api.ErrArg})
			}
		}
	}
}

// P10.4: the program ends without an access if the content is too long, whatever the log is.
func TestPutTooLong(t *testing.T) {
	for rec := range 4 {
		logs := [][]api.Result{nil, {}, make([]api.Result, 1), make([]api.Result, 16), make([]api.Result, 30), logOf(valid(rec, 1, "a"), valid(rec, 2, "b")), logOf(valid(rec, 1<<40, "a"), "")}
		for _, n := range []int{2001, 2002, 2024, 2048, 2049, 4000, 1 << 16, 1<<16 + 2000, 1 << 20} {
			for _, log := range logs {
				stepped(t, fmt.Sprint("Put of ", n, " bytes"), putter(rec, filled(1, n)), log, nil, api.Stored{Err: api.ErrFull})
			}
		}
		put(t, "2000 bytes", rec, filled(1, 2000), make([]api.Result, 16))
	}
}

// P10.4: the successor is the area that Get does not return, with the next sequence number, or area 0 if none is valid; there is none after 2^40.
func TestPutSuccessor(t *testing.T) {
	for _, seq := range seqs() {
		for rec := range 4 {
			log := append(twoAreas(rec, seq), make([]api.Result, 4)...)
			a, s, done := Put(rec, "new", log[:16])
			_, end, _ := Put(rec, "new", log)
			if max(seq[0], seq[1]) == 1<<40 {
				full := api.Stored{Err: api.ErrFull}
				stepped(t, fmt.Sprint("sequence numbers ", seq), putter(rec, "new"), log, otherReads(rec), full)
				continue
			}
			area := 0
			if seq[0] > 0 && seq[0] >= seq[1] {
				area = 1
			}
			if want := (api.Stored{Content: "new", Seq: max(seq[0], seq[1]) + 1}); a.Kind != api.AWrite || a.Cell != First(rec, area) || s != (api.Stored{}) || done || end != want {
				t.Errorf("record %d, sequence numbers %d: %s, then %s", rec, seq, shortAccess(a), shortOut(end))
			}
			put(t, fmt.Sprint("sequence numbers ", seq), rec, "new", log[:16])
		}
	}
}

// P10.4: a sequence number of more than 2^40 in an area does not count, so that Put goes on after the other area.
func TestPutBeyondSeq(t *testing.T) {
	for rec := range 4 {
		log := append(logOf(valid(rec, 1<<40+1, "far"), valid(rec, 5, "near")), make([]api.Result, 2)...)
		if _, s, done := Put(rec, "new", log); s != (api.Stored{Content: "new", Seq: 6}) || !done {
			t.Errorf("record %d: %s, %t", rec, shortOut(s), done)
		}
		log = append(logOf(valid(rec, 1<<40-1, "last but one"), valid(rec, 1<<40+1, "far")), make([]api.Result, 2)...)
		if _, s, done := Put(rec, "new", log); s != (api.Stored{Content: "new", Seq: 1 << 40}) || !done {
			t.Errorf("record %d: %s, %t", rec, shortOut(s), done)
		}
	}
}

// P10.4: the accesses of Put for a content of one sector, written out.
func TestPutOneSector(t *testing.T) {
	log := append(logOf("", valid(2, 1, "old")), make([]api.Result, 5)...)
	l := otherReads(2)
	l = append(l, api.Access{Kind: api.AWrite, Cell: 32, Bytes: filled(0, 256)}, api.Access{Kind: api.AWrite, Cell: 32, Bytes: padded(valid(2, 2, "new"), 256)})
	stepped(t, "one sector", putter(2, "new"), log, l, api.Stored{Content: "new", Seq: 2})
}

// P10.4: the accesses of Put for a content of three sectors, written out.
func TestPutThreeSectors(t *testing.T) {
	log := append(logOf(valid(1, 1, "old"), ""), make([]api.Result, 7)...)
	content := pattern(2, 600)
	b := padded(valid(1, 2, content), 768)
	l := otherReads(1)
	for _, x := range []struct {
		cell int
		b    string
	}{{24, filled(0, 256)}, {25, b[256:512]}, {26, b[512:]}, {24, b[:256]}} {
		l = append(l, api.Access{Kind: api.AWrite, Cell: x.cell, Bytes: x.b})
	}
	stepped(t, "three sectors", putter(1, content), log, l, api.Stored{Content: content, Seq: 2})
}

// P10.4: a content that fills the sectors exactly, or is one byte shorter or longer, takes as many writes as sectors, and one more.
func TestPutSectorCount(t *testing.T) {
	for _, x := range []struct{ seq, extra int }{{1, 19}, {63, 19}, {64, 20}, {1 << 40, 24}} {
		log := logOf("", valid(0, x.seq-1, "before"))
		for k := 1; k <= 7; k++ {
			for n, count := range map[int]int{256*k - x.extra - 1: k, 256*k - x.extra: k, 256*k - x.extra + 1: k + 1} {
				l, out := otherPut(0, pattern(1, n), log)
				if len(l) != 16+count+1 || out.Seq != x.seq {
					t.Fatalf("sequence number %d, %d bytes: %d accesses, %s", x.seq, n, len(l), shortOut(out))
				}
				put(t, fmt.Sprint(k, " sectors, ", n, " bytes"), 0, pattern(1, n), log)
			}
		}
	}
}

// P10.4: contents of every length are written as the other implementation writes them, and Get reads them.
func TestPutEveryLength(t *testing.T) {
	for n := range 2001 {
		rec := n % 4
		log := logOf(valid(rec, n+1, "before"), "")
		l, out := otherPut(rec, pattern(byte(n), n), log)
		after := slices.Clone(log)
		for k := 16; k < len(l); k++ {
			a, s, done := Put(rec, pattern(byte(n), n), append(log, make([]api.Result, k-16)...))
			if a != l[k] || s != (api.Stored{}) || done {
				t.Fatalf("%d bytes: access %d = %s, %s, %t, want %s", n, k, shortAccess(a), shortOut(s), done, shortAccess(l[k]))
			}
			after[a.Cell-16*rec].Bytes = a.Bytes
		}
		_, s, done := Put(rec, pattern(byte(n), n), append(log, make([]api.Result, len(l)-16)...))
		_, again, _ := Get(rec, after)
		if s != out || !done || again != out {
			t.Fatalf("%d bytes: %s, %t, then Get returns %s", n, shortOut(s), done, shortOut(again))
		}
	}
}

// junk are results that neither a write nor an access beyond the last one should have.
var junk = []api.Result{{}, {Val: 1}, {Val: -7, Bytes: "x"}, {Bytes: filled(0, 256)}, {Bytes: valid(0, 99, "junk")}, {Bytes: filled(255, 300)}, {Val: math.MaxInt, Bytes: filled(1, 1<<16)}}

// Logs: the results of writes, and those beyond the last access, are ignored.
func TestIgnoredResults(t *testing.T) {
	log := logOf(valid(0, 3, "three"), valid(0, 2, "two"))
	for _, r := range junk {
		for _, n := range []int{1, 2, 3, 40} {
			more := append(slices.Clone(log), slices.Repeat([]api.Result{r}, n)...)
			got(t, "results beyond", 0, more, api.Stored{Content: "three", Seq: 3})
		}
		for _, content := range []string{"", "new", pattern(4, 600), pattern(4, 2000)} {
			l, out := otherPut(0, content, log)
			more := append(slices.Clone(log), slices.Repeat([]api.Result{r}, len(l)-16+5)...)
			stepped(t, "results of writes", putter(0, content), more, l, out)
		}
	}
}

// Logs: the values of results are ignored, of all of them and of each one.
func TestIgnoredValues(t *testing.T) {
	log := append(logOf(valid(1, 3, "three"), valid(1, 4, "four")), make([]api.Result, 3)...)
	l, out := otherPut(1, "five", log)
	for at := range len(log) + 1 {
		for _, val := range []int{1, -1, 2, 256, math.MaxInt, math.MinInt} {
			changed := slices.Clone(log)
			for i := range changed {
				if i == at || at == len(log) {
					changed[i].Val = val
				}
			}
			got(t, "values", 1, changed, api.Stored{Content: "four", Seq: 4})
			stepped(t, "values", putter(1, "five"), changed, l, out)
		}
	}
}

// split divides b at random into the results of the reads of one area.
func split(r *rand.Rand, b string) []api.Result {
	var l []api.Result
	for range 7 {
		n := []int{0, len(b), min(len(b), 256), r.Intn(len(b) + 1), r.Intn(len(b) + 1)}[r.Intn(5)]
		l = append(l, api.Result{Bytes: b[:n]})
		b = b[n:]
	}
	return append(l, api.Result{Bytes: b})
}

// Logs: it does not matter how the bytes of an area are divided among the results.
func TestSplitResults(t *testing.T) {
	r := rand.New(rand.NewSource(1))
	for range 2000 {
		rec := r.Intn(4)
		first, second := 1+r.Intn(4), 1+r.Intn(4)
		a, b := valid(rec, first, pattern(1, r.Intn(2001))), valid(rec, second, pattern(2, r.Intn(2001)))
		a += filled(7, r.Intn(2)*r.Intn(3000))
		log := append(split(r, a), split(r, b+filled(8, r.Intn(2)*r.Intn(3000)))...)
		_, s, done := Get(rec, log)
		want := otherGet(rec, log)
		if s != want || want.Seq != max(first, second) || !done {
			t.Fatalf("Get = %s, %t, want %s", shortOut(s), done, shortOut(want))
		}
		put(t, "split", rec, "next", log)
	}
}

// Logs: each result of a read may be empty, shorter or longer than a sector, or very long; what follows it moves accordingly.
func TestResultLengths(t *testing.T) {
	long := strings.Repeat(valid(3, 6, "very long"), 1<<12)
	for at := range 16 {
		for _, b := range []string{"", "x", filled(0, 255), filled(0, 257), valid(3, 6, "short"), valid(3, 6, pattern(1, 500)), valid(3, 1, "old") + filled(1, 3000), long} {
			for _, content := range []string{"ab", pattern(3, 700)} {
				log := logOf(valid(3, 4, content), valid(3, 5, content))
				log[at].Bytes = b
				both(t, fmt.Sprint("result ", at, " of ", len(b), " bytes"), 3, log)
				log = make([]api.Result, 16)
				log[at].Bytes = b
				both(t, fmt.Sprint("only result ", at, " of ", len(b), " bytes"), 3, log)
			}
		}
	}
	both(t, "all results very long", 3, slices.Repeat([]api.Result{{Bytes: long}}, 16))
}

// Logs: an empty result in any place moves the bytes behind it to the front.
func TestEmptyResults(t *testing.T) {
	b := valid(2, 9, pattern(6, 1000))
	for at := range 8 {
		area := slices.Insert(sectors(b), at, api.Result{})[:8]
		for _, log := range [][]api.Result{append(area, sectors("")...), append(sectors(""), area...)} {
			if _, s, _ := Get(2, log); s != (api.Stored{Content: pattern(6, 1000), Seq: 9}) {
				t.Errorf("an empty result %d: %s", at, shortOut(s))
			}
		}
	}
}

// randomArea returns the bytes of an area that is often almost valid.
func randomArea(r *rand.Rand, rec int) string {
	content := pattern(byte(r.Intn(256)), []int{0, 1, r.Intn(70), r.Intn(2003), 237, 2000}[r.Intn(6)])
	seq := []int{r.Intn(4), 1 + r.Intn(3), 1<<40 - r.Intn(3), 1<<40 + 1, -1}[r.Intn(5)]
	if r.Intn(12) == 0 {
		rec = r.Intn(6) - 1
	}
	b := []byte(valid(rec, seq, content))
	if r.Intn(6) == 0 {
		b[r.Intn(len(b))] ^= byte(1 << r.Intn(8))
	}
	if r.Intn(6) == 0 {
		b = b[:r.Intn(len(b))]
	}
	return string(b) + filled(byte(r.Intn(256)), r.Intn(2)*r.Intn(20))
}

// P10.3 and P10.4: many logs have the results that the other implementation finds.
func TestRandomLogs(t *testing.T) {
	r := rand.New(rand.NewSource(2))
	found := map[api.Errno]int{}
	for range 3000 {
		rec := r.Intn(4)
		var log []api.Result
		for range 2 {
			b := randomArea(r, rec)
			if len(b) <= 2048 && r.Intn(2) == 0 {
				log = append(log, sectors(b)...)
			} else {
				log = append(log, split(r, b)...)
			}
		}
		want := otherGet(rec, log)
		found[want.Err]++
		got(t, "random", rec, log, want)
		put(t, "random", rec, pattern(1, r.Intn(2001)), log)
	}
	if found[api.OK] < 300 || found[api.ErrNone] < 300 {
		t.Errorf("the logs are not mixed: %v", found)
	}
}

// run executes a program on a device, and returns the device and the outcome; power is lost in the access number cut, after n bytes of a write.
func run(t *testing.T, h api.Hardware, p program, cut, n int) (api.Hardware, api.Stored, bool) {
	t.Helper()
	var log []api.Result
	for k := range 100 {
		a, out, done := p(log)
		if done {
			return h, out, true
		}
		g, r, err := device.Do(h, a, api.Fault{Cut: k == cut, Bytes: n})
		if err != api.OK {
			t.Fatalf("the access %s fails: %d", shortAccess(a), err)
		}
		if h = g; k == cut {
			return h, api.Stored{}, false
		}
		log = append(log, r)
	}
	t.Fatal("the program does not end")
	return h, api.Stored{}, false
}

// blank returns a device without records.
func blank() api.Hardware {
	h, _ := device.New(api.Digest{}, 16)
	return h
}

// laid returns a device in which the bytes of an area are b, followed by zeros.
func laid(h api.Hardware, rec, area int, b string) api.Hardware {
	h.Flash.Sectors = slices.Clone(h.Flash.Sectors)
	for i, r := range sectors(b) {
		h.Flash.Sectors[16*rec+8*area+i] = r.Bytes
	}
	return h
}

// current returns what Get returns on a device, and checks that it changes nothing.
func current(t *testing.T, h api.Hardware, rec int) api.Stored {
	t.Helper()
	g, out, _ := run(t, h, getter(rec), -1, 0)
	if !device.Same(g, h) {
		t.Error("Get changes the device")
	}
	return out
}

// P10.5: complete updates, of one record after the other, are read with sequence numbers that count them; nothing else changes.
func TestUpdates(t *testing.T) {
	r := rand.New(rand.NewSource(3))
	h := blank()
	var want [4]api.Stored
	for rec := range want {
		want[rec] = none
	}
	for range 200 {
		rec, content := r.Intn(4), pattern(byte(r.Intn(256)), []int{0, 1, 236, 237, 238, 2000, r.Intn(2001)}[r.Intn(7)])
		g, out, done := run(t, h, putter(rec, content), -1, 0)
		want[rec] = api.Stored{Content: content, Seq: want[rec].Seq + 1}
		if out != want[rec] || !done {
			t.Fatalf("Put of the record %d = %s, %t, want %s", rec, shortOut(out), done, shortOut(want[rec]))
		}
		for other := range want {
			if s := current(t, g, other); s != want[other] {
				t.Fatalf("Get of the record %d = %s, want %s", other, shortOut(s), shortOut(want[other]))
			}
		}
		h = g
	}
}

// update is an update of the record 1 of a device.
type update struct {
	name    string
	h       api.Hardware
	content string
}

// updates are updates of records in all states, with short and long contents.
func updates() []update {
	const rec = 1
	old := func(a, b string) api.Hardware { return laid(laid(blank(), rec, 0, a), rec, 1, b) }
	long, short := pattern(1, 700), "short"
	// Bytes of the successor that would be valid together with a part of the new ones: if its first sector were not cleared, or not before the others are written.
	forged := valid(rec, 6, pattern(2, 300))
	rest := valid(rec, 6, pattern(3, 700))[256:]
	return []update{
		{"none, short", blank(), short},
		{"none, long", blank(), long},
		{"none, full", blank(), pattern(2, 2000)},
		{"one, long", old(valid(rec, 1, "one"), ""), long},
		{"one, two sectors exactly", old("", valid(rec, 3, "three")), pattern(3, 493)},
		{"two, short after long", old(valid(rec, 5, long), valid(rec, 4, pattern(4, 1500))), short},
		{"two, long after short", old(valid(rec, 4, "four"), valid(rec, 5, "five")), long},
		{"the same sequence number", old(valid(rec, 5, "five"), valid(rec, 5, "other")), long},
		{"the last sequence number", old(valid(rec, 1<<40-2, long), valid(rec, 1<<40-1, short)), long},
		{"the same content", old(valid(rec, 4, long), valid(rec, 5, long)), long},
		{"the first sector of another content", old(forged[:256], valid(rec, 5, "five")), filled('n', 253) + forged[256:] + filled('n', 200)},
		{"all but the first byte of another content", old("\x02"+forged[1:], valid(rec, 5, "five")), short},
		{"all but the first sector of the new content", old(filled(1, 256)+rest, valid(rec, 5, "five")), pattern(3, 700)},
		{"the next sequence number, not valid", old(valid(rec, 5, "five"), valid(2, 6, long)), long},
		{"garbage", old(filled(255, 2048), filled(128, 2048)), long},
	}
}

// survived reports an error if a device after an interrupted update does not have the old or the new content, or if another update does not succeed there; it returns what Get returns.
func survived(t *testing.T, name string, x update, g api.Hardware, before, after api.Stored) api.Stored {
	t.Helper()
	s := current(t, g, 1)
	if s != before && s != after {
		t.Fatalf("%s: Get returns %s", name, shortOut(s))
	}
	for _, content := range []string{"again", x.content} {
		if s.Seq == 1<<40 {
			break
		}
		end, out, done := run(t, g, putter(1, content), -1, 0)
		if want := (api.Stored{Content: content, Seq: s.Seq + 1}); out != want || !done || current(t, end, 1) != want {
			t.Fatalf("%s: another Put = %s, %t, then Get returns %s", name, shortOut(out), done, shortOut(current(t, end, 1)))
		}
	}
	for i, b := range g.Flash.Sectors {
		if (i < 16 || i >= 32) && b != x.h.Flash.Sectors[i] {
			t.Fatalf("%s: the sector %d has changed", name, i)
		}
	}
	return s
}

// P10.5: a loss of power in any access of Put, after any number of bytes of a write, leaves the old or the new content: the old one until the last write has begun, the new one when it is complete.
func TestPower(t *testing.T) {
	for _, x := range updates() {
		t.Run(x.name, func(t *testing.T) {
			t.Parallel()
			cutEverywhere(t, x)
		})
	}
}

// cutEverywhere interrupts an update in each access, and in each write after each number of bytes; at last it does not interrupt it.
func cutEverywhere(t *testing.T, x update) {
	before := current(t, x.h, 1)
	l, after := otherPut(1, x.content, slices.Concat(readOf(x.h, 0), readOf(x.h, 1)))
	for cut := range l {
		for n := range 257 {
			if cut < 16 && n > 0 {
				break
			}
			g, _, done := run(t, x.h, putter(1, x.content), cut, n)
			name := fmt.Sprintf("cut in access %d after %d bytes", cut, n)
			s := survived(t, name, x, g, before, after)
			if done || cut < len(l)-1 && s != before || cut == len(l)-1 && n == 256 && s != after {
				t.Fatalf("%s: Get returns %s", name, shortOut(s))
			}
		}
	}
	g, out, done := run(t, x.h, putter(1, x.content), len(l), 0)
	if out != after || !done || current(t, g, 1) != after {
		t.Fatalf("Put = %s, %t, then Get returns %s", shortOut(out), done, shortOut(current(t, g, 1)))
	}
}

// readOf returns the results of reading an area of the record 1.
func readOf(h api.Hardware, area int) []api.Result {
	var l []api.Result
	for i := range 8 {
		l = append(l, api.Result{Bytes: h.Flash.Sectors[16+8*area+i]})
	}
	return l
}

// P10.5: Put does not write to the area that Get returns, nor to areas of other records; it makes the same reads as Get before.
func TestPutKeeps(t *testing.T) {
	for _, x := range updates() {
		before := current(t, x.h, 1)
		var log []api.Result
		h := x.h
		for k := range 40 {
			a, _, done := Put(1, x.content, log)
			if done {
				break
			}
			if k < 16 != (a.Kind == api.ARead) || a.Cell < 16 || a.Cell >= 32 {
				t.Errorf("%s: access %d is %s", x.name, k, shortAccess(a))
			}
			// What Get returns is not in the area that is written, so that it is still there without it.
			if a.Kind == api.AWrite && current(t, laid(x.h, 1, a.Cell/8%2, ""), 1) != before {
				t.Errorf("%s: access %d overwrites the area that Get returns: %s", x.name, k, shortAccess(a))
			}
			g, r, _ := device.Do(h, a, api.Fault{})
			h, log = g, append(log, r)
		}
	}
}

// P10.5: whatever updates are interrupted one after the other, each record has the old or the new content, and the sequence number never falls.
func TestPowerRandom(t *testing.T) {
	r := rand.New(rand.NewSource(4))
	for range 20 {
		h := blank()
		want := [4]api.Stored{none, none, none, none}
		for range 60 {
			rec, content := r.Intn(4), pattern(byte(r.Intn(256)), []int{0, 1, 237, 2000, r.Intn(2001), r.Intn(300)}[r.Intn(6)])
			cut := 14 + r.Intn(14)
			g, out, done := run(t, h, putter(rec, content), cut, r.Intn(258))
			after := api.Stored{Content: content, Seq: want[rec].Seq + 1}
			s := current(t, g, rec)
			if done && (s != after || out != after) || s != after && s != want[rec] {
				t.Fatalf("Put, cut in access %d: %s, %t, then Get returns %s", cut, shortOut(out), done, shortOut(s))
			}
			want[rec] = s
			for other := range want {
				if s := current(t, g, other); s != want[other] {
					t.Fatalf("Get of the record %d = %s, want %s", other, shortOut(s), shortOut(want[other]))
				}
			}
			h = g
		}
	}
}

// Section Memory of DOC.md: what a log is changed to afterwards does not change results, a log is not changed, and nothing is appended to it.
func TestMemory(t *testing.T) {
	for _, content := range []string{"", "new", pattern(1, 900)} {
		whole := append(logOf(valid(0, 3, "three"), valid(0, 2, "two")), slices.Repeat([]api.Result{{Val: 5, Bytes: "behind"}}, 10)...)
		before := slices.Clone(whole)
		for k := range len(whole) + 1 {
			log := slices.Clone(whole)
			a, s, _ := Put(0, content, log[:k])
			_, read, _ := Get(0, log[:k])
			if !slices.Equal(log, before) {
				t.Fatalf("the log has changed after %d results", k)
			}
			again, out, _ := Put(0, content, log[:k:k])
			clear(log)
			if a != again || s != out || k >= 16 && read != (api.Stored{Content: "three", Seq: 3}) {
				t.Errorf("after %d results: %s and %s, %s and %s, %s", k, shortAccess(a), shortAccess(again), shortOut(s), shortOut(out), shortOut(read))
			}
		}
	}
}

// summary returns what all functions return for a record, a content and a log, as a text.
func summary(rec int, content string, log []api.Result) string {
	var s strings.Builder
	for k := range len(log) + 1 {
		fmt.Fprintln(&s, First(rec, k%3))
		for _, p := range []program{getter(rec), putter(rec, content)} {
			a, out, done := p(log[:k])
			fmt.Fprintln(&s, a, out, done)
		}
	}
	return s.String()
}

// Section State of DOC.md: what a call returns does not depend on other calls, be they before it or at the same time, with the same log.
func TestCallsIndependent(t *testing.T) {
	logs := [][]api.Result{append(logOf(valid(2, 3, "three"), valid(2, 2, "two")), make([]api.Result, 5)...), make([]api.Result, 20), append(logOf("", valid(2, 1, pattern(1, 1500))), junk...)}
	var want []string
	for _, log := range logs {
		want = append(want, summary(2, pattern(1, 500), log))
	}
	var wait sync.WaitGroup
	for worker := range 8 {
		wait.Go(func() {
			for k := range 20 {
				i := (k*2 + worker) % len(logs)
				if summary(2, pattern(1, 500), logs[i]) != want[i] {
					t.Errorf("worker %d: the results for the log %d have changed", worker, i)
				}
			}
		})
	}
	wait.Wait()
}
