package flash

import (
	"fmt"
	"math"
	"math/rand"
	"slices"
	"strings"
	"sync"
	"testing"

	"bootchain/api"
)

// filled returns n bytes that are all c.
func filled(c byte, n int) string { return strings.Repeat(string([]byte{c}), n) }

// pattern returns n bytes of many values; two patterns with different kinds differ at every place.
func pattern(kind byte, n int) string {
	b := make([]byte, n)
	for i := range b {
		b[i] = byte(i*7) + kind
	}
	return string(b)
}

// memory returns a flash memory with these sectors.
func memory(sectors ...string) api.Flash { return api.Flash{Sectors: sectors} }

// patterns returns a flash memory of n different sectors of 256 bytes.
func patterns(n int) api.Flash {
	var f api.Flash
	for i := range n {
		f.Sectors = append(f.Sectors, pattern(byte(i), 256))
	}
	return f
}

// copied returns a flash memory that shares no slice with f.
func copied(f api.Flash) api.Flash { return memory(append([]string{}, f.Sectors...)...) }

// equal reports whether two flash memories have equal sectors, without the function that is tested.
func equal(a, b api.Flash) bool { return slices.Equal(a.Sectors, b.Sectors) }

// short returns the lengths of the sectors, for messages.
func short(f api.Flash) string {
	var n []int
	for _, s := range f.Sectors {
		n = append(n, len(s))
	}
	return fmt.Sprint("memory of sectors with ", n, " bytes")
}

// far are numbers that are no sector of the memories in these tests, and no place for a cut.
var far = []int{-1, -2, -128, -129, -256, -257, 1 << 12, 1 << 16, 1<<16 + 1, 1 << 31, 1<<31 - 1, 1 << 32, 1<<32 + 1, -1 << 31, -1 << 32, 1 - 1<<32, 1 << 62, math.MaxInt, math.MaxInt - 1, math.MaxInt - 255, math.MinInt, math.MinInt + 1, math.MinInt + 256}

// noSectors returns numbers that are no sector of f.
func noSectors(f api.Flash) []int { return append([]int{len(f.Sectors), len(f.Sectors) + 1}, far...) }

// whole are cuts that let a write finish.
var whole = append([]int{256, 257, 258, 300, 511, 512}, far...)

// lengths are the lengths of the sectors of memories that are not valid.
var lengths = []int{0, 1, 2, 3, 100, 127, 128, 129, 254, 255, 257, 258, 300, 511, 512, 513, 1000}

// validSamples are valid flash memories.
func validSamples() []api.Flash {
	return []api.Flash{{}, memory([]string{}...), patterns(1), patterns(2), patterns(3), patterns(128), memory(filled(0, 256)), memory(filled(255, 256), filled(0, 256))}
}

// invalidSamples are flash memories that are not valid.
func invalidSamples() []api.Flash {
	l := []api.Flash{patterns(129), patterns(300), memory("abc", "", pattern(1, 256), pattern(2, 300))}
	for i, n := range lengths {
		l = append(l, memory(pattern(byte(i), n)), memory(pattern(3, 256), pattern(byte(i), n), pattern(4, 256)))
	}
	return l
}

// samples are flash memories of all kinds.
func samples() []api.Flash { return append(validSamples(), invalidSamples()...) }

// P8.1: New returns so many sectors of zero bytes.
func TestNew(t *testing.T) {
	for n := range 129 {
		f, err := New(n)
		if err != api.OK || len(f.Sectors) != n || !Valid(f) {
			t.Fatalf("New of %d = %s, %d", n, short(f), err)
		}
		for i, s := range f.Sectors {
			if s != filled(0, 256) {
				t.Errorf("New of %d: the sector %d is %q", n, i, s)
			}
		}
	}
}

// P8.1: New refuses a number that is not from 0 to 128.
func TestNewBad(t *testing.T) {
	for _, n := range append([]int{129, 130, 255, 256, 257, 1<<32 + 128, 1<<63 - 128}, far...) {
		if f, err := New(n); err != api.ErrArg || len(f.Sectors) != 0 {
			t.Errorf("New of %d = %s, %d", n, short(f), err)
		}
	}
}

// P8.1: two new memories do not share their sectors.
func TestNewMemory(t *testing.T) {
	f, _ := New(4)
	g, _ := New(4)
	f.Sectors[1] = "x"
	_ = append(f.Sectors, "y")
	if !equal(g, memory(slices.Repeat([]string{filled(0, 256)}, 4)...)) {
		t.Errorf("changing a new memory changed another one to %q", g)
	}
}

// P8.1: a valid memory has at most 128 sectors.
func TestValidCount(t *testing.T) {
	for n := range 400 {
		if f := patterns(n); Valid(f) != (n <= 128) {
			t.Errorf("Valid of %d sectors is %t", n, Valid(f))
		}
	}
	for _, n := range []int{1 << 12, 1 << 16, 1<<16 + 1} {
		if Valid(memory(slices.Repeat([]string{filled(1, 256)}, n)...)) {
			t.Errorf("Valid of %d sectors is true", n)
		}
	}
	for _, f := range validSamples() {
		if !Valid(f) {
			t.Errorf("Valid of a %s is false", short(f))
		}
	}
}

// P8.1: each sector of a valid memory has 256 bytes, the first, a middle and the last one.
func TestValidLength(t *testing.T) {
	for _, bad := range append([]int{1 << 16, 1<<16 + 256}, lengths...) {
		for _, count := range []int{1, 2, 3, 128} {
			for _, place := range []int{0, count / 2, count - 1} {
				f := patterns(count)
				f.Sectors[place] = pattern(9, bad)
				if Valid(f) {
					t.Errorf("Valid of %d sectors is true, although the sector %d has %d bytes", count, place, bad)
				}
			}
		}
	}
	// Lengths that are right on average are not right.
	if Valid(memory(pattern(0, 255), pattern(1, 257))) || Valid(memory("", pattern(1, 512))) {
		t.Error("Valid of a short and a long sector is true")
	}
}

// P8.1: any bytes may be in a valid memory, such as those that are no text in UTF-8.
func TestValidBytes(t *testing.T) {
	for c := range 256 {
		if !Valid(memory(filled(byte(c), 256))) {
			t.Errorf("Valid of a sector of bytes %d is false", c)
		}
	}
	if Valid(memory(strings.Repeat("é", 256))) || !Valid(memory(strings.Repeat("é", 128))) {
		t.Error("Valid counts characters, not bytes")
	}
}

// P8.2: Read returns every sector as it is, also of a memory that is not valid.
func TestRead(t *testing.T) {
	for _, f := range samples() {
		for i, want := range f.Sectors {
			if s, err := Read(f, i); s != want || err != api.OK {
				t.Errorf("Read of the sector %d of a %s = %q, %d", i, short(f), s, err)
			}
		}
	}
	for c := range 256 {
		if s, err := Read(memory(filled(byte(c), 256)), 0); s != filled(byte(c), 256) || err != api.OK {
			t.Errorf("Read of a sector of bytes %d = %q, %d", c, s, err)
		}
	}
}

// P8.2: Read refuses a sector that does not exist.
func TestReadNoSector(t *testing.T) {
	for _, f := range samples() {
		for _, no := range noSectors(f) {
			if s, err := Read(f, no); s != "" || err != api.ErrNone {
				t.Errorf("Read of the sector %d of a %s = %q, %d", no, short(f), s, err)
			}
		}
	}
}

// otherWrite returns what a sector contains after a write, byte by byte.
func otherWrite(old, b string, cut int) string {
	var after []byte
	for i := 0; ; i++ {
		switch {
		case (cut < 0 || cut > 255 || i < cut) && i < len(b):
			after = append(after, b[i])
		case cut >= 0 && cut <= 255 && i < len(old):
			after = append(after, old[i])
		default:
			return string(after)
		}
	}
}

// written reports an error if a write does not change the one sector to want and leave the other ones.
func written(t *testing.T, f api.Flash, sector int, b string, cut int, want string) {
	t.Helper()
	before := copied(f)
	all := copied(f)
	all.Sectors[sector] = want
	if g, err := Write(f, sector, b, cut); !equal(g, all) || err != api.OK {
		t.Errorf("Write of the sector %d of a %s with the cut %d = %q, %d, want %q", sector, short(f), cut, g, err, all)
	}
	if !equal(f, before) {
		t.Errorf("Write of the sector %d of %q changed its argument to %q", sector, before, f)
	}
}

// P8.3: the example of the chapter.
func TestWriteExample(t *testing.T) {
	f, _ := New(2)
	written(t, f, 1, filled(7, 256), 3, "\x07\x07\x07"+filled(0, 253))
}

// P8.3: a write that is not cut, or only after its last byte, leaves the new bytes.
func TestWriteWhole(t *testing.T) {
	for _, cut := range whole {
		for _, count := range []int{1, 2, 3, 128} {
			for _, place := range []int{0, count / 2, count - 1} {
				written(t, patterns(count), place, pattern(200, 256), cut, pattern(200, 256))
			}
		}
	}
}

// P8.3: a write that is cut leaves the first new bytes, followed by the old ones: for every cut.
func TestWriteCut(t *testing.T) {
	f := memory(pattern(1, 256), filled('a', 256), pattern(2, 256))
	for cut := range 256 {
		written(t, f, 1, filled('b', 256), cut, filled('b', cut)+filled('a', 256-cut))
		written(t, f, 0, pattern(3, 256), cut, otherWrite(pattern(1, 256), pattern(3, 256), cut))
		written(t, f, 2, filled(0, 256), cut, filled(0, cut)+pattern(2, 256)[cut:])
	}
	written(t, f, 1, pattern(0, 256), 0, filled('a', 256))
	written(t, f, 1, pattern(0, 256), 1, "\x00"+filled('a', 255))
	written(t, f, 1, pattern(0, 256), 128, pattern(0, 128)+filled('a', 128))
	written(t, f, 1, pattern(0, 256), 255, pattern(0, 255)+"a")
}

// P8.3: bytes of every value are written over bytes of every value.
func TestWriteBytes(t *testing.T) {
	for c := range 256 {
		f := memory(filled(byte(c), 256))
		for _, cut := range []int{-1, 0, 1, 100, 255, 256} {
			for _, b := range []string{pattern(0, 256), filled(byte(c), 256), filled(byte(c+1), 256), filled(^byte(c), 256)} {
				written(t, f, 0, b, cut, otherWrite(filled(byte(c), 256), b, cut))
			}
		}
	}
	// A cut in the middle of a character leaves a part of it.
	written(t, memory(filled('a', 256)), 0, strings.Repeat("é", 128), 3, "é\xc3"+filled('a', 253))
}

// P8.3 and P8.4: a write over a sector of any length is whole, or keeps as many old bytes as there are behind the cut.
func TestWriteInvalid(t *testing.T) {
	for n := range 600 {
		old := pattern(5, n)
		f := memory(pattern(3, 256), old, pattern(4, 10))
		for _, cut := range []int{0, 1, 2, n / 2, n - 1, n, n + 1, 128, 254, 255} {
			if cut < 0 || cut > 255 {
				continue
			}
			want := pattern(6, cut)
			if cut < n {
				want += old[cut:]
			}
			written(t, f, 1, pattern(6, 256), cut, want)
		}
		for _, cut := range []int{-1, 256, 257, n + 256, math.MaxInt, math.MinInt} {
			written(t, f, 1, pattern(6, 256), cut, pattern(6, 256))
		}
	}
}

// P8.4: lengths of the old content that the chapter's sentence on invalid memories is about, one by one.
func TestWriteInvalidLengths(t *testing.T) {
	for _, x := range []struct {
		old  string
		cut  int
		want string
	}{
		{"", 0, ""}, {"", 1, "z"}, {"", 5, "zzzzz"}, {"", 255, filled('z', 255)}, {"", -1, filled('z', 256)}, {"", 256, filled('z', 256)},
		{"abc", 0, "abc"}, {"abc", 2, "zzc"}, {"abc", 3, "zzz"}, {"abc", 4, "zzzz"}, {"abc", 255, filled('z', 255)},
		{filled('a', 255), 254, filled('z', 254) + "a"}, {filled('a', 255), 255, filled('z', 255)}, {filled('a', 255), 256, filled('z', 256)},
		{filled('a', 257), 0, filled('a', 257)}, {filled('a', 257), 255, filled('z', 255) + "aa"}, {filled('a', 257), 256, filled('z', 256)},
		{filled('a', 1000), 3, "zzz" + filled('a', 997)}, {filled('a', 1000), 300, filled('z', 256)},
	} {
		written(t, memory(x.old), 0, filled('z', 256), x.cut, x.want)
		written(t, memory("q", x.old, ""), 1, filled('z', 256), x.cut, x.want)
	}
}

// P8.4: sectors beyond the 128th one of a memory that has too many can be written.
func TestWriteTooManySectors(t *testing.T) {
	f := patterns(300)
	for _, i := range []int{0, 127, 128, 129, 255, 256, 299} {
		written(t, f, i, filled('z', 256), 2, "zz"+f.Sectors[i][2:])
		written(t, f, i, filled('z', 256), -1, filled('z', 256))
	}
}

// refused reports an error if a write does not return its argument and this error.
func refused(t *testing.T, f api.Flash, sector int, b string, cut int, want api.Errno) {
	t.Helper()
	before := copied(f)
	if g, err := Write(f, sector, b, cut); !equal(g, before) || err != want {
		t.Errorf("Write of %d bytes to the sector %d of a %s with the cut %d = %q, %d", len(b), sector, short(f), cut, g, err)
	}
	if !equal(f, before) {
		t.Errorf("a refused write changed its argument %q to %q", before, f)
	}
}

// badContents are strings that have not 256 bytes; some of them have 256 characters.
func badContents() []string {
	l := []string{strings.Repeat("é", 256), strings.Repeat("é", 256) + "a", filled(0, 1<<16), filled(0, 1<<16+256)}
	for _, n := range lengths {
		l = append(l, pattern(7, n))
	}
	return l
}

// P8.3: Write refuses a string that has not 256 bytes, whatever the cut is.
func TestWriteBadContent(t *testing.T) {
	for _, f := range []api.Flash{patterns(1), patterns(3), patterns(129), memory("abc", "", pattern(7, 300))} {
		for sector := range f.Sectors {
			for _, b := range badContents() {
				for _, cut := range []int{-1, 0, 3, 255, 256, len(b), math.MaxInt, math.MinInt} {
					refused(t, f, sector, b, cut, api.ErrArg)
				}
			}
		}
	}
}

// P8.3: Write refuses a sector that does not exist, also if the string is bad, too.
func TestWriteNoSector(t *testing.T) {
	for _, f := range samples() {
		for _, no := range noSectors(f) {
			for _, b := range []string{"", pattern(7, 255), pattern(7, 256), pattern(7, 257)} {
				for _, cut := range []int{-1, 0, 5, 256} {
					refused(t, f, no, b, cut, api.ErrNone)
				}
			}
		}
	}
}

// spoil changes everything that can be reached from f.
func spoil(f api.Flash) {
	for i := range f.Sectors[:cap(f.Sectors)] {
		f.Sectors[:cap(f.Sectors)][i] = "spoiled"
	}
}

// P8.3 and section Memory of DOC.md: what happens to the result of a write does not change the memory before it, and vice versa.
func TestWriteMemory(t *testing.T) {
	for _, sample := range samples() {
		for sector := -1; sector <= len(sample.Sectors); sector += 1 + len(sample.Sectors)/3 {
			for _, b := range []string{filled('z', 256), "short"} {
				for _, cut := range []int{-1, 0, 2} {
					f := copied(sample)
					g, _ := Write(f, sector, b, cut)
					after := copied(g)
					spoil(g)
					if !equal(f, sample) {
						t.Fatalf("changing the result of a write to the sector %d changed a %s to %q", sector, short(sample), f)
					}
					h, _ := Write(f, sector, b, cut)
					spoil(f)
					if !equal(h, after) {
						t.Fatalf("changing the argument of a write to the sector %d of a %s changed the result to %q", sector, short(sample), h)
					}
				}
			}
		}
	}
}

// P8.3 and section Memory of DOC.md: memories that share an array do not notice writes to one another, nor what is appended to the result.
func TestWriteSharedArray(t *testing.T) {
	array := patterns(6).Sectors
	before := patterns(6)
	for _, f := range []api.Flash{memory(array[:2]...), memory(array[1:4]...), memory(array[:0]...), memory(array...)} {
		for sector := -1; sector <= len(f.Sectors); sector++ {
			g, _ := Write(f, sector, filled('z', 256), -1)
			_ = append(g.Sectors, "y", "z")
			if !equal(memory(array...), before) {
				t.Fatalf("the array is %q", array)
			}
		}
	}
}

// same reports an error if Same does not report want, in either order.
func same(t *testing.T, a, b api.Flash, want bool) {
	t.Helper()
	if Same(a, b) != want || Same(b, a) != want {
		t.Errorf("Same of a %s and a %s are %t, %t", short(a), short(b), Same(a, b), Same(b, a))
	}
}

// P8.4: a memory is the same as itself and as a copy, valid or not, and no two samples are the same.
func TestSame(t *testing.T) {
	l := samples()
	for i, f := range l {
		same(t, f, f, true)
		same(t, f, copied(f), true)
		for _, g := range l[:i] {
			same(t, f, g, equal(f, g))
		}
	}
}

// P8.4: one byte of one sector makes a difference, at every place.
func TestSameByte(t *testing.T) {
	for _, count := range []int{1, 2, 3, 128} {
		for _, place := range []int{0, count / 2, count - 1} {
			for i := range 256 {
				f := patterns(count)
				s := []byte(f.Sectors[place])
				s[i] ^= 1 << (i % 8)
				f.Sectors[place] = string(s)
				same(t, patterns(count), f, false)
			}
		}
	}
}

// P8.4: the length of one sector makes a difference, even if all other bytes are the same.
func TestSameLength(t *testing.T) {
	for place := range 3 {
		for _, n := range lengths {
			f := memory(filled(0, 256), filled(0, 256), filled(0, 256))
			g := copied(f)
			g.Sectors[place] = filled(0, n)
			same(t, f, g, false)
		}
	}
	// The same bytes in all, divided in another way.
	same(t, memory("ab", "c"), memory("a", "bc"), false)
	same(t, memory("ab"), memory("a", "b"), false)
	same(t, memory(filled(0, 255), filled(0, 257)), memory(filled(0, 256), filled(0, 256)), false)
}

// P8.4: the number of sectors makes a difference, and so does their order.
func TestSameCount(t *testing.T) {
	for n := range 130 {
		same(t, patterns(n), patterns(n+1), false)
	}
	same(t, memory(), memory(""), false)
	same(t, memory(""), memory("", ""), false)
	same(t, memory("a"), memory("a", ""), false)
	same(t, memory("", "a"), memory("a"), false)
	same(t, memory("a", "b"), memory("b", "a"), false)
	same(t, memory("a", "a", "b"), memory("a", "b", "b"), false)
}

// P8.4: memories without sectors are the same, whether their slice is nil or not.
func TestSameEmpty(t *testing.T) {
	zero, _ := New(0)
	l := []api.Flash{{}, {Sectors: []string{}}, {Sectors: make([]string, 0, 5)}, {Sectors: patterns(3).Sectors[:0]}, zero}
	for _, a := range l {
		for _, b := range l {
			same(t, a, b, true)
		}
		same(t, a, patterns(1), false)
	}
}

// entry is a write of a sequence.
type entry struct {
	sector int
	b      string
	cut    int
}

// randomEntry returns a write to one of count sectors; some have no sector or a bad content, and so change nothing.
func randomEntry(r *rand.Rand, count int) entry {
	e := entry{r.Intn(count), pattern(byte(r.Intn(256)), 256), r.Intn(256)}
	switch r.Intn(8) {
	case 0:
		e.cut = whole[r.Intn(len(whole))]
	case 1:
		e.cut = []int{0, 1, 255}[r.Intn(3)]
	case 2:
		e.b = badContents()[r.Intn(10)]
	case 3:
		e.sector = []int{-1, count, far[r.Intn(len(far))]}[r.Intn(3)]
	}
	return e
}

// contents returns what a sector contains after a sequence of writes: each byte is that of the last write that reached it.
func contents(first string, sector int, l []entry) string {
	after := make([]byte, 256)
	for i := range after {
		after[i] = first[i]
		for _, e := range slices.Backward(l) {
			reached := e.cut < 0 || e.cut > 255 || i < e.cut
			if e.sector == sector && len(e.b) == 256 && reached {
				after[i] = e.b[i]
				break
			}
		}
	}
	return string(after)
}

// P8.5: after a sequence of writes, each sector contains the last whole one with prefixes of later ones over it.
func TestWrites(t *testing.T) {
	r := rand.New(rand.NewSource(1))
	for round := range 60 {
		count := []int{1, 2, 3, 7, 128}[round%5]
		f := patterns(count)
		var l []entry
		for range 10 + 3*count {
			e := randomEntry(r, count)
			l = append(l, e)
			f, _ = Write(f, e.sector, e.b, e.cut)
		}
		if !Valid(f) || len(f.Sectors) != count {
			t.Fatal("the writes left a", short(f))
		}
		for i, s := range f.Sectors {
			if want := contents(pattern(byte(i), 256), i, l); s != want {
				t.Errorf("round %d: the sector %d of %d is %q, want %q", round, i, count, s, want)
			}
		}
	}
}

// P8.5: the prefixes of cut writes lie over the last whole write; what was before it is gone.
func TestWritesCut(t *testing.T) {
	for _, x := range []struct {
		cuts []int
		want string
	}{
		{[]int{-1, 3}, "bbb" + filled('a', 253)},
		{[]int{5, 3}, "bbbaa" + filled('-', 251)},
		{[]int{3, 5}, "bbbbb" + filled('-', 251)},
		{[]int{5, -1}, filled('b', 256)},
		{[]int{-1, 10, 4, 7, 2}, "eedddddbbb" + filled('a', 246)},
		{[]int{9, 256, 10, 0, 255}, filled('e', 255) + "b"},
		{[]int{-1, 255, 0, 254}, filled('d', 254) + "ba"},
	} {
		f := memory(filled('-', 256), filled('-', 256), filled('-', 256))
		for i, cut := range x.cuts {
			f, _ = Write(f, 1, filled('a'+byte(i), 256), cut)
		}
		if !equal(f, memory(filled('-', 256), x.want, filled('-', 256))) {
			t.Errorf("writes with the cuts %v leave %q", x.cuts, f)
		}
	}
}

// P8.5: two writes to different sectors may be exchanged, and a write that is repeated changes nothing more.
func TestWritesIndependent(t *testing.T) {
	r := rand.New(rand.NewSource(2))
	for range 300 {
		f := patterns(4)
		x, y := randomEntry(r, 4), randomEntry(r, 4)
		fx, _ := Write(f, x.sector, x.b, x.cut)
		fxx, _ := Write(fx, x.sector, x.b, x.cut)
		same(t, fx, fxx, true)
		if x.sector != y.sector {
			fxy, _ := Write(fx, y.sector, y.b, y.cut)
			fy, _ := Write(f, y.sector, y.b, y.cut)
			fyx, _ := Write(fy, x.sector, x.b, x.cut)
			same(t, fxy, fyx, true)
		}
	}
}

// results returns what all functions return for f, as a text.
func results(f api.Flash) string {
	made, err := New(len(f.Sectors))
	s := fmt.Sprintln(Valid(f), Same(f, made), Same(f, f), made, err)
	for _, i := range append([]int{0, 1, len(f.Sectors) - 1}, noSectors(f)...) {
		content, err := Read(f, i)
		g, errWrite := Write(f, i, pattern(byte(i), 256), i+2)
		h, errShort := Write(f, i, content, 2)
		s += fmt.Sprintln(content, err, g, errWrite, h, errShort)
	}
	return s
}

// Section State of DOC.md: what a call returns does not depend on other calls, be they before it or at the same time.
func TestCallsIndependent(t *testing.T) {
	var want []string
	for _, f := range samples() {
		want = append(want, results(f))
	}
	var wait sync.WaitGroup
	for worker := range 4 {
		wait.Go(func() {
			all := samples()
			for k := range all {
				i := (5*k + worker) % len(all)
				if got := results(all[i]); got != want[i] {
					t.Errorf("worker %d: the results for a %s have changed", worker, short(all[i]))
				}
			}
		})
	}
	wait.Wait()
}

// Section State of DOC.md: calls at the same time may use the same memory.
func TestSharedFlash(t *testing.T) {
	for _, f := range []api.Flash{patterns(5), memory("abc", "", pattern(1, 256), pattern(2, 300))} {
		want := results(f)
		var wait sync.WaitGroup
		for range 8 {
			wait.Go(func() {
				if got := results(f); got != want {
					t.Error("the results have changed")
				}
			})
		}
		wait.Wait()
	}
}
