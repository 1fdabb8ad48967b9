package device

import (
	"fmt"
	"math"
	"math/rand"
	"reflect"
	"slices"
	"strings"
	"sync"
	"testing"

	"bootchain/api"
	"bootchain/fuse"
)

// states are the letters of the four states of a cell, in the order of their numbers: intact, weak, blown, stuck.
const states = "iwbs"

// bank returns the cells that letters stand for; blanks only separate.
func bank(letters string) []uint8 {
	cells := []uint8{}
	for _, c := range strings.ReplaceAll(letters, " ", "") {
		cells = append(cells, uint8(strings.IndexRune(states, c)))
	}
	return cells
}

// fuses returns the fuses whose banks are given as letters.
func fuses(banks ...string) api.Fuses {
	var f api.Fuses
	for _, letters := range banks {
		f.Banks = append(f.Banks, bank(letters))
	}
	return f
}

// text returns the letters of all banks.
func text(f api.Fuses) string {
	var s strings.Builder
	for b, cells := range f.Banks {
		if b > 0 {
			s.WriteByte('|')
		}
		for _, state := range cells {
			s.WriteByte(states[state])
		}
	}
	return s.String()
}

// filled returns n bytes that are all c.
func filled(c byte, n int) string { return strings.Repeat(string([]byte{c}), n) }

// pattern returns n bytes of many values; two patterns with different kinds differ at every place.
func pattern(kind byte, n int) string {
	b := make([]byte, n)
	for i := range b {
		b[i] = byte(i*7) + kind
	}
	return string(b)
}

// patterns returns n different sectors of 256 bytes.
func patterns(n int) []string {
	var l []string
	for i := range n {
		l = append(l, pattern(byte(i), 256))
	}
	return l
}

// root returns a root key whose bytes are all different.
func root(first byte) api.Digest {
	var d api.Digest
	for i := range d {
		d[i] = first + byte(i)
	}
	return d
}

// hardware returns a device with these fuses and sectors.
func hardware(f api.Fuses, sectors ...string) api.Hardware {
	return api.Hardware{Fuses: f, Flash: api.Flash{Sectors: sectors}, Root: root(40)}
}

// full returns a device with cells of all states in four banks, and with 128 different sectors.
func full() api.Hardware {
	return hardware(fuses(strings.Repeat("iwbs", 12), "iwb", "", "sbwiii"), patterns(128)...)
}

// copied returns a device that shares no memory with h.
func copied(h api.Hardware) api.Hardware {
	g := api.Hardware{Root: h.Root}
	for _, cells := range h.Fuses.Banks {
		g.Fuses.Banks = append(g.Fuses.Banks, append([]uint8{}, cells...))
	}
	g.Flash.Sectors = append(g.Flash.Sectors, h.Flash.Sectors...)
	return g
}

// equal reports whether two devices are equal, without the function that is tested.
func equal(a, b api.Hardware) bool {
	if a.Root != b.Root || len(a.Fuses.Banks) != len(b.Fuses.Banks) {
		return false
	}
	for i, cells := range a.Fuses.Banks {
		if string(cells) != string(b.Fuses.Banks[i]) {
			return false
		}
	}
	return slices.Equal(a.Flash.Sectors, b.Flash.Sectors)
}

// short describes a device, for messages.
func short(h api.Hardware) string {
	var n []int
	for _, s := range h.Flash.Sectors {
		n = append(n, len(s))
	}
	return fmt.Sprintf("device with the cells %s and sectors of %v bytes", text(h.Fuses), n)
}

// describe returns a short text for an access and its fault.
func describe(a api.Access, f api.Fault) string {
	return fmt.Sprintf("access {kind %d, bank %d, cell %d, %d bytes} with %+v", a.Kind, a.Bank, a.Cell, len(a.Bytes), f)
}

// quoted returns a text for results.
func quoted(l ...api.Result) string {
	var s strings.Builder
	for _, r := range l {
		fmt.Fprintf(&s, "{%d %q}", r.Val, r.Bytes)
	}
	return "[" + s.String() + "]"
}

// The accesses of the four kinds.
func readFuse(bank, cell int) api.Access {
	return api.Access{Kind: api.AFuse, Bank: bank, Cell: cell}
}
func pulse(bank, cell int) api.Access {
	return api.Access{Kind: api.APulse, Bank: bank, Cell: cell}
}
func read(sector int) api.Access { return api.Access{Kind: api.ARead, Cell: sector} }
func write(sector int, b string) api.Access {
	return api.Access{Kind: api.AWrite, Cell: sector, Bytes: b}
}

// far are numbers that are no bank, cell or sector of any device in these tests, and no number of bytes of a sector.
var far = []int{-1, -2, -3, -4, -47, -48, -49, -128, -129, -255, -256, -257, 1 << 12, 1 << 16, 1<<16 + 1, 1 << 31, 1<<31 - 1, 1 << 32, 1<<32 + 1, -1 << 31, -1 << 32, 1 - 1<<32, 1 << 62, math.MaxInt, math.MaxInt - 1, math.MaxInt - 255, math.MinInt, math.MinInt + 1, math.MinInt + 256}

// faults are all kinds of faults.
func faults() []api.Fault {
	var l []api.Fault
	for _, n := range []int{0, 1, 2, 3, 128, 254, 255, 256, 257, 300, -1, -2, -256, math.MaxInt, math.MinInt} {
		for _, cut := range []bool{false, true} {
			for _, noise := range []bool{false, true} {
				l = append(l, api.Fault{Cut: cut, Bytes: n, Noise: noise})
			}
		}
	}
	return l
}

// samples are devices with valid fuses; the flash memory of some of them is not valid.
func samples() []api.Hardware {
	return []api.Hardware{
		{},
		{Root: root(1)},
		hardware(fuses("iwb")),
		hardware(api.Fuses{}, patterns(3)...),
		hardware(fuses("", "", "", ""), ""),
		hardware(fuses("sbw", "", "iwbsis"), pattern(1, 256), filled(0, 256)),
		hardware(fuses("iii", "www", "bbb", "sss"), "abc", "", pattern(2, 256), pattern(3, 257), pattern(4, 600), pattern(5, 255)),
		hardware(fuses(strings.Repeat("w", 48), "iiiiii"), patterns(130)...),
		full(),
	}
}

// numbers are kinds, banks, cells and sectors: some of them exist in a device of the samples, some do not.
var numbers = []int{-1, 0, 1, 2, 3, 4, 5, 6, 47, 48, 127, 128, 129, 130, math.MaxInt, math.MinInt}

// accessesOf returns accesses of all kinds to a device: good ones, and ones that are wrong in one way or in several.
func accessesOf(h api.Hardware) []api.Access {
	var l []api.Access
	for _, kind := range []int{-1, 0, 1, 2, 3, 4, 5, math.MaxInt, math.MinInt} {
		for _, b := range []int{-1, 0, 1, len(h.Fuses.Banks) - 1, len(h.Fuses.Banks), math.MaxInt, math.MinInt} {
			for _, cell := range append(numbers, len(h.Flash.Sectors)-1, len(h.Flash.Sectors)) {
				for _, bytes := range []string{"", "x", pattern(77, 255), pattern(77, 256), pattern(77, 257)} {
					l = append(l, api.Access{Kind: kind, Bank: b, Cell: cell, Bytes: bytes})
				}
			}
		}
	}
	return l
}

// wrong returns the error of an access, found in another way than Do finds it.
func wrong(h api.Hardware, a api.Access) api.Errno {
	ofFuse, ofFlash := a.Kind == 1 || a.Kind == 2, a.Kind == 3 || a.Kind == 4
	cells := 0
	if a.Bank >= 0 && a.Bank < len(h.Fuses.Banks) {
		cells = len(h.Fuses.Banks[a.Bank])
	}
	switch {
	case !ofFuse && !ofFlash, a.Kind != 4 && len(a.Bytes) > 0, ofFlash && a.Bank != 0:
		return 1
	case ofFuse && (a.Cell < 0 || a.Cell >= cells):
		return 1
	case ofFlash && (a.Cell < 0 || a.Cell >= len(h.Flash.Sectors)):
		return 13
	case a.Kind == 4 && len(a.Bytes) != 256:
		return 1
	}
	return 0
}

// torn returns what a sector contains after a write, byte by byte.
func torn(old, b string, f api.Fault) string {
	if !f.Cut || f.Bytes >= 256 {
		return b
	}
	var after []byte
	for i := range max(len(old), f.Bytes) {
		if i < f.Bytes {
			after = append(after, b[i])
		} else {
			after = append(after, old[i])
		}
	}
	return string(after)
}

// otherDo returns what an access should do, without the packages fuse and flash.
func otherDo(h api.Hardware, a api.Access, f api.Fault) (api.Hardware, api.Result, api.Errno) {
	h = copied(h)
	var r api.Result
	if err := wrong(h, a); err != 0 {
		return h, r, err
	}
	switch a.Kind {
	case 1:
		state := states[h.Fuses.Banks[a.Bank][a.Cell]]
		if state == 'b' || state == 'w' && f.Noise {
			r.Val = 1
		}
	case 2:
		after := "bbbs"
		if f.Cut {
			after = "wwbs"
		}
		h.Fuses.Banks[a.Bank][a.Cell] = bank(after)[h.Fuses.Banks[a.Bank][a.Cell]]
	case 3:
		r.Bytes = h.Flash.Sectors[a.Cell]
	case 4:
		h.Flash.Sectors[a.Cell] = torn(h.Flash.Sectors[a.Cell], a.Bytes, f)
	}
	if f.Cut {
		r = api.Result{}
	}
	return h, r, 0
}

// done reports an error if Do does not return this, or changes its argument.
func done(t *testing.T, h api.Hardware, a api.Access, f api.Fault, want api.Hardware, result api.Result, wantErr api.Errno) {
	t.Helper()
	before := copied(h)
	g, r, err := Do(h, a, f)
	if !equal(g, want) || r != result || err != wantErr {
		t.Errorf("Do of a %s on a %s = %s, %s, %d, want %s, %s, %d", describe(a, f), short(h), short(g), quoted(r), err, short(want), quoted(result), wantErr)
	}
	if !equal(h, before) {
		t.Errorf("Do of a %s changed a %s to %s", describe(a, f), short(before), short(h))
	}
}

// refused reports an error if Do, with any fault, does not return the device as it was and this error.
func refused(t *testing.T, h api.Hardware, a api.Access, want api.Errno) {
	t.Helper()
	for _, f := range faults() {
		done(t, h, a, f, h, api.Result{}, want)
	}
}

// created reports an error if New does not return a new device with banks of these sizes.
func created(t *testing.T, key api.Digest, bits ...int) {
	t.Helper()
	h, err := New(key, bits...)
	var banks []string
	for _, n := range bits {
		banks = append(banks, strings.Repeat("iii", n))
	}
	want := api.Hardware{Fuses: fuses(banks...), Flash: api.Flash{Sectors: slices.Repeat([]string{filled(0, 256)}, 128)}, Root: key}
	if err != api.OK || !equal(h, want) {
		t.Errorf("New of %v, %d = %v, %s, %d", key, bits, h.Root, short(h), err)
	}
}

// P9.1: New returns a device with the root key, intact fuses of the given sizes, and 128 sectors of zeros.
func TestNew(t *testing.T) {
	for _, key := range []api.Digest{{}, {9}, root(1), root(200), api.Digest(slices.Repeat([]byte{255}, 16))} {
		created(t, key)
		created(t, key, []int{}...)
		created(t, key, 0)
		created(t, key, 16, 16, 16, 16)
		created(t, key, 16, 0, 1, 15)
	}
	for a := range 17 {
		created(t, root(7), a)
		created(t, root(7), 16-a, a)
		created(t, root(7), 3, a, 5)
		created(t, root(7), 1, 0, 16, a)
	}
}

// P9.1: the banks of the layout that package api gives, and as many sectors as it gives, which is a valid number.
func TestNewLayout(t *testing.T) {
	h, err := New(root(1), 16, 16, 16, 16)
	if err != api.OK || len(h.Fuses.Banks) != api.Banks || len(h.Flash.Sectors) != api.Sectors || api.Sectors > api.MaxSector {
		t.Errorf("New = %s, %d", short(h), err)
	}
}

// notCreated reports an error if New does not return the zero value and ErrArg.
func notCreated(t *testing.T, bits ...int) {
	t.Helper()
	if h, err := New(root(7), bits...); err != api.ErrArg || !reflect.DeepEqual(h, api.Hardware{}) {
		t.Errorf("New of %d = %v, %s, %d", bits, h.Root, short(h), err)
	}
}

// P9.1: New refuses more than four banks, and returns nothing then.
func TestNewTooMany(t *testing.T) {
	for n := 5; n < 20; n++ {
		for _, width := range []int{0, 1, 16} {
			notCreated(t, slices.Repeat([]int{width}, n)...)
		}
	}
	notCreated(t, 17, 1, 1, 1, 1)
	notCreated(t, make([]int, 1<<16)...)
}

// P9.1: New refuses a bank whose size is not from 0 to 16, at any place, and returns nothing then.
func TestNewBadWidth(t *testing.T) {
	for _, bad := range append([]int{17, 18, 32, 48, 1<<63 - 16}, far...) {
		for n := 1; n <= 4; n++ {
			for place := range n {
				bits := slices.Repeat([]int{16}, n)
				bits[place] = bad
				notCreated(t, bits...)
			}
		}
	}
}

// P9.1: two new devices share nothing, and the sizes are not changed.
func TestNewMemory(t *testing.T) {
	bits := []int{2, 1, 2}
	h, _ := New(root(1), bits...)
	g, _ := New(root(1), bits...)
	want := copied(g)
	spoil(h)
	if !equal(g, want) || !slices.Equal(bits, []int{2, 1, 2}) {
		t.Errorf("changing a new device changed another one to a %s, and the sizes to %d", short(g), bits)
	}
}

// P9.2: Do refuses a kind that is unknown, whatever the other fields of the access are.
func TestDoUnknownKind(t *testing.T) {
	for _, h := range []api.Hardware{full(), {}} {
		for _, kind := range append([]int{0, 5, 6, 7, 8, 255, 256, 257, 1<<16 + 3, 1<<32 + 2, 1<<62 + 4}, far...) {
			for _, a := range []api.Access{{}, {Cell: 1}, {Bank: 1, Cell: 1}, {Bytes: pattern(77, 256)}, {Bank: -1, Cell: 128, Bytes: "x"}} {
				a.Kind = kind
				refused(t, h, a, api.ErrArg)
			}
		}
	}
}

// P9.2: Do refuses bytes in any access that is not a write, also if everything else is good.
func TestDoBytes(t *testing.T) {
	h := full()
	for _, bytes := range []string{"x", "\x00", " ", "é", filled(0, 255), filled(0, 256), pattern(77, 256), filled(0, 257), filled('x', 1<<16)} {
		for _, a := range []api.Access{readFuse(0, 0), readFuse(0, 2), readFuse(1, 1), pulse(0, 0), pulse(3, 3), pulse(1, 1), read(0), read(1), read(127)} {
			a.Bytes = bytes
			refused(t, h, a, api.ErrArg)
		}
	}
}

// P9.2: Do refuses a bank in an access to the flash memory, also if everything else is good.
func TestDoBank(t *testing.T) {
	h := full()
	for _, b := range append([]int{1, 2, 3, 4, 5, 127, 128, 256}, far...) {
		for _, a := range []api.Access{read(0), read(5), read(127), write(0, pattern(77, 256)), write(5, filled(0, 256)), write(127, pattern(77, 256))} {
			a.Bank = b
			refused(t, h, a, api.ErrArg)
		}
	}
}

// P9.2: a bank in an access to the flash memory, or bytes in a read, come before the error of the flash memory, which would be ErrNone.
func TestDoFirstError(t *testing.T) {
	h := full()
	for _, sector := range []int{-1, 128, 129, math.MaxInt, math.MinInt} {
		refused(t, h, read(sector), api.ErrNone)
		refused(t, h, api.Access{Kind: api.ARead, Cell: sector, Bytes: "x"}, api.ErrArg)
		refused(t, h, api.Access{Kind: api.ARead, Cell: sector, Bank: 1}, api.ErrArg)
		refused(t, h, api.Access{Kind: api.ARead, Cell: sector, Bank: -1, Bytes: "x"}, api.ErrArg)
		refused(t, h, write(sector, pattern(77, 256)), api.ErrNone)
		refused(t, h, write(sector, ""), api.ErrNone)
		refused(t, h, write(sector, "short"), api.ErrNone)
		refused(t, h, api.Access{Kind: api.AWrite, Cell: sector, Bank: 2, Bytes: pattern(77, 256)}, api.ErrArg)
		refused(t, h, api.Access{Kind: api.AWrite, Cell: sector, Bank: -2, Bytes: "short"}, api.ErrArg)
	}
}

// P9.2: Do refuses a cell that does not exist.
func TestDoNoCell(t *testing.T) {
	for _, h := range samples() {
		for b, cells := range h.Fuses.Banks {
			for _, no := range append([]int{len(cells), len(cells) + 1, 48, 49, 127, 128}, far...) {
				refused(t, h, readFuse(b, no), api.ErrArg)
				refused(t, h, pulse(b, no), api.ErrArg)
			}
		}
		for _, no := range append([]int{len(h.Fuses.Banks), len(h.Fuses.Banks) + 1, 4, 5}, far...) {
			for _, cell := range []int{-1, 0, 1, 47, 48} {
				refused(t, h, readFuse(no, cell), api.ErrArg)
				refused(t, h, pulse(no, cell), api.ErrArg)
			}
		}
	}
}

// P9.2: Do refuses a sector that does not exist.
func TestDoNoSector(t *testing.T) {
	for _, h := range samples() {
		for _, no := range append([]int{len(h.Flash.Sectors), len(h.Flash.Sectors) + 1}, far...) {
			refused(t, h, read(no), api.ErrNone)
			refused(t, h, write(no, pattern(77, 256)), api.ErrNone)
		}
	}
}

// P9.2: Do refuses a write that has not 256 bytes, some of them with 256 characters.
func TestDoWriteLength(t *testing.T) {
	for _, h := range []api.Hardware{full(), samples()[6]} {
		for _, bytes := range []string{"", "x", pattern(77, 2), pattern(77, 128), pattern(77, 254), pattern(77, 255), pattern(77, 257), pattern(77, 258), pattern(77, 512), pattern(77, 1<<16), strings.Repeat("é", 256)} {
			for _, sector := range []int{0, 3, len(h.Flash.Sectors) - 1} {
				refused(t, h, write(sector, bytes), api.ErrArg)
			}
		}
	}
}

// P9.2: a fuse cell reads as its state and the noise say.
func TestDoReadFuse(t *testing.T) {
	h := full()
	for cell, want := range []struct{ quiet, noisy int }{{0, 0}, {0, 1}, {1, 1}, {0, 0}} {
		for _, c := range []int{cell, cell + 4, cell + 44} {
			done(t, h, readFuse(0, c), api.Fault{}, h, api.Result{Val: want.quiet}, api.OK)
			done(t, h, readFuse(0, c), api.Fault{Noise: true}, h, api.Result{Val: want.noisy}, api.OK)
			done(t, h, readFuse(0, c), api.Fault{Bytes: 7}, h, api.Result{Val: want.quiet}, api.OK)
		}
	}
	done(t, h, readFuse(1, 2), api.Fault{}, h, api.Result{Val: 1}, api.OK)
	done(t, h, readFuse(3, 0), api.Fault{Noise: true}, h, api.Result{}, api.OK)
	done(t, h, readFuse(3, 1), api.Fault{}, h, api.Result{Val: 1}, api.OK)
	done(t, h, readFuse(3, 2), api.Fault{Noise: true}, h, api.Result{Val: 1}, api.OK)
	done(t, h, readFuse(3, 5), api.Fault{Noise: true}, h, api.Result{}, api.OK)
}

// P9.2: a pulse blows an intact or weak cell, or leaves it weak if it is cut; noise and Bytes do not matter.
func TestDoPulse(t *testing.T) {
	h := hardware(fuses("iwbs", "iwb", "", "sbwiii"), patterns(4)...)
	for _, x := range []struct {
		bank, cell int
		whole, cut string
	}{
		{0, 0, "bwbs|iwb||sbwiii", "wwbs|iwb||sbwiii"},
		{0, 1, "ibbs|iwb||sbwiii", "iwbs|iwb||sbwiii"},
		{0, 2, "iwbs|iwb||sbwiii", "iwbs|iwb||sbwiii"},
		{0, 3, "iwbs|iwb||sbwiii", "iwbs|iwb||sbwiii"},
		{1, 0, "iwbs|bwb||sbwiii", "iwbs|wwb||sbwiii"},
		{3, 2, "iwbs|iwb||sbbiii", "iwbs|iwb||sbwiii"},
		{3, 5, "iwbs|iwb||sbwiib", "iwbs|iwb||sbwiiw"},
	} {
		for _, f := range faults() {
			want := x.whole
			if f.Cut {
				want = x.cut
			}
			done(t, h, pulse(x.bank, x.cell), f, hardware(fuses(strings.Split(want, "|")...), patterns(4)...), api.Result{}, api.OK)
		}
	}
}

// P9.2: a read returns the content of the sector, also if the flash memory is not valid; noise and Bytes do not matter.
func TestDoRead(t *testing.T) {
	for _, h := range samples() {
		for i, content := range h.Flash.Sectors {
			done(t, h, read(i), api.Fault{}, h, api.Result{Bytes: content}, api.OK)
			done(t, h, read(i), api.Fault{Noise: true, Bytes: 3}, h, api.Result{Bytes: content}, api.OK)
		}
	}
}

// P9.2: a read that is cut, of a fuse cell or of a sector, returns the zero result and changes nothing.
func TestDoReadCut(t *testing.T) {
	h := full()
	for _, f := range faults() {
		if !f.Cut {
			continue
		}
		for cell := range 48 {
			done(t, h, readFuse(0, cell), f, h, api.Result{}, api.OK)
		}
		for _, sector := range []int{0, 1, 5, 127} {
			done(t, h, read(sector), f, h, api.Result{}, api.OK)
		}
	}
}

// replaced returns h with another content of a sector.
func replaced(h api.Hardware, sector int, content string) api.Hardware {
	h = copied(h)
	h.Flash.Sectors[sector] = content
	return h
}

// P9.2: the example of the chapter.
func TestDoExample(t *testing.T) {
	h, _ := New(root(1), 1)
	done(t, h, write(5, filled('b', 256)), api.Fault{Cut: true, Bytes: 3}, replaced(h, 5, "bbb"+filled(0, 253)), api.Result{}, api.OK)
}

// P9.2: a write that is not cut is whole, whatever the Bytes of the fault are.
func TestDoWrite(t *testing.T) {
	h := full()
	for _, n := range append([]int{0, 1, 2, 128, 254, 255, 256, 257}, far...) {
		for _, sector := range []int{0, 1, 64, 126, 127} {
			for _, noise := range []bool{false, true} {
				done(t, h, write(sector, pattern(200, 256)), api.Fault{Bytes: n, Noise: noise}, replaced(h, sector, pattern(200, 256)), api.Result{}, api.OK)
			}
		}
	}
}

// P9.2: a write that is cut leaves as many new bytes as the fault says: for every number of bytes of a sector.
func TestDoWriteCut(t *testing.T) {
	h := hardware(fuses("iwb"), filled('a', 256), filled('b', 256), filled('c', 256))
	for n := range 257 {
		for _, noise := range []bool{false, true} {
			done(t, h, write(1, filled('z', 256)), api.Fault{Cut: true, Bytes: n, Noise: noise}, replaced(h, 1, filled('z', n)+filled('b', 256-n)), api.Result{}, api.OK)
		}
	}
	old, b := pattern(1, 256), pattern(0, 256)
	done(t, full(), write(1, b), api.Fault{Cut: true, Bytes: 1}, replaced(full(), 1, b[:1]+old[1:]), api.Result{}, api.OK)
	done(t, full(), write(1, b), api.Fault{Cut: true, Bytes: 255}, replaced(full(), 1, b[:255]+old[255:]), api.Result{}, api.OK)
}

// P9.2: a cut beyond the bytes of a sector is limited: before them nothing is written, behind them everything.
func TestDoWriteCutLimited(t *testing.T) {
	h := full()
	for _, n := range append([]int{0, 256, 257, 258, 511, 512}, far...) {
		for _, sector := range []int{0, 64, 127} {
			want := h
			if n >= 256 {
				want = replaced(h, sector, pattern(200, 256))
			}
			done(t, h, write(sector, pattern(200, 256)), api.Fault{Cut: true, Bytes: n}, want, api.Result{}, api.OK)
		}
	}
}

// P9.2: a write over a sector of any length keeps as many old bytes as there are behind the cut.
func TestDoWriteInvalid(t *testing.T) {
	z := filled('z', 256)
	for _, x := range []struct {
		old  string
		n    int
		want string
	}{
		{"", 0, ""}, {"", 1, "z"}, {"", 255, z[:255]}, {"", 256, z}, {"", -1, ""},
		{"abc", -1, "abc"}, {"abc", 0, "abc"}, {"abc", 2, "zzc"}, {"abc", 3, "zzz"}, {"abc", 4, "zzzz"}, {"abc", 255, z[:255]}, {"abc", 256, z}, {"abc", 257, z},
		{filled('a', 255), 254, z[:254] + "a"}, {filled('a', 255), 255, z[:255]}, {filled('a', 255), 256, z},
		{filled('a', 257), -5, filled('a', 257)}, {filled('a', 257), 0, filled('a', 257)}, {filled('a', 257), 255, z[:255] + "aa"}, {filled('a', 257), 256, z},
		{filled('a', 1000), 3, "zzz" + filled('a', 997)}, {filled('a', 1000), 256, z}, {filled('a', 1000), 300, z}, {filled('a', 1000), math.MaxInt, z},
	} {
		for sector, h := range []api.Hardware{hardware(fuses("iwb"), x.old), hardware(fuses("iwb"), "q", x.old, "r")} {
			done(t, h, write(sector, z), api.Fault{Cut: true, Bytes: x.n}, replaced(h, sector, x.want), api.Result{}, api.OK)
			done(t, h, write(sector, z), api.Fault{Bytes: x.n}, replaced(h, sector, z), api.Result{}, api.OK)
		}
	}
	h := hardware(fuses("iwb"), patterns(130)...)
	done(t, h, write(129, z), api.Fault{Cut: true, Bytes: 3}, replaced(h, 129, "zzz"+pattern(129, 256)[3:]), api.Result{}, api.OK)
}

// P9.2: every access of many, right or wrong in any way, does with every fault what the other implementation says.
func TestDoAll(t *testing.T) {
	few := []api.Fault{{}, {Noise: true}, {Cut: true}, {Cut: true, Bytes: 100, Noise: true}, {Bytes: 100}, {Cut: true, Bytes: 256}, {Cut: true, Bytes: -1}}
	errors := map[api.Errno]int{}
	for _, h := range samples() {
		for _, a := range accessesOf(h) {
			for _, f := range few {
				want, r, err := otherDo(h, a, f)
				done(t, h, a, f, want, r, err)
				errors[err]++
			}
		}
	}
	for _, err := range []api.Errno{api.OK, api.ErrArg, api.ErrNone} {
		if errors[err] < 100 {
			t.Errorf("the error %d occurred %d times only", err, errors[err])
		}
	}
}

// run is a list of accesses with their faults.
type run struct {
	l []api.Access
	f []api.Fault
}

// otherAll returns what All should do, access by access.
func otherAll(h api.Hardware, x run) (api.Hardware, []api.Result, api.Errno) {
	padded := append(slices.Clone(x.f), make([]api.Fault, len(x.l))...)
	var results []api.Result
	for i := 0; i < len(x.l); i++ {
		g, r, err := otherDo(h, x.l[i], padded[i])
		if err != 0 {
			return h, results, err
		}
		h = g
		if padded[i].Cut {
			return h, results, 0
		}
		results = append(results, r)
	}
	return h, results, 0
}

// doneAll reports an error if All does not return this, or changes its arguments.
func doneAll(t *testing.T, h api.Hardware, x run, want api.Hardware, results []api.Result, wantErr api.Errno) {
	t.Helper()
	before, l, f := copied(h), slices.Clone(x.l), slices.Clone(x.f)
	g, r, err := All(h, x.l, x.f)
	if !equal(g, want) || !slices.Equal(r, results) || err != wantErr {
		t.Errorf("All of %d accesses with the faults %+v on a %s = %s, %s, %d, want %s, %s, %d", len(x.l), x.f, short(h), short(g), quoted(r...), err, short(want), quoted(results...), wantErr)
	}
	if !equal(h, before) || !slices.Equal(x.l, l) || !slices.Equal(x.f, f) {
		t.Errorf("All changed its arguments to a %s, %v, %v", short(h), x.l, x.f)
	}
}

// small returns a device with three sectors, and accesses to it: two writes, two pulses, and reads behind them.
func small() (api.Hardware, []api.Access) {
	h := hardware(fuses("iii", "www"), filled('a', 256), filled('b', 256), filled('c', 256))
	return h, []api.Access{write(1, filled('x', 256)), read(1), pulse(0, 2), readFuse(0, 2), read(2), pulse(1, 0), readFuse(1, 1), write(1, filled('y', 256)), read(1)}
}

// smallAfter returns what the small device is after the first n of its accesses.
func smallAfter(n int) api.Hardware {
	h, _ := small()
	if n > 0 {
		h.Flash.Sectors[1] = filled('x', 256)
	}
	if n > 2 {
		h.Fuses = fuses("iib", "www")
	}
	if n > 5 {
		h.Fuses = fuses("iib", "bww")
	}
	if n > 7 {
		h.Flash.Sectors[1] = filled('y', 256)
	}
	return h
}

// smallResults returns the results of the first n accesses to the small device.
func smallResults(n int) []api.Result {
	return []api.Result{{}, {Bytes: filled('x', 256)}, {}, {Val: 1}, {Bytes: filled('c', 256)}, {}, {}, {}, {Bytes: filled('y', 256)}}[:n]
}

// P9.3: without accesses All changes nothing, with any faults.
func TestAllNone(t *testing.T) {
	for _, h := range samples() {
		for _, f := range [][]api.Fault{nil, {}, {{}}, {{Cut: true}}, {{Noise: true}, {Cut: true, Bytes: 3}}} {
			doneAll(t, h, run{nil, f}, h, nil, api.OK)
			doneAll(t, h, run{[]api.Access{}, f}, h, nil, api.OK)
		}
	}
}

// P9.3: All executes the accesses in their order, also if there are fewer or more faults than accesses.
func TestAll(t *testing.T) {
	h, l := small()
	for n := range len(l) + 1 {
		for count := range len(l) + 4 {
			doneAll(t, h, run{l[:n], make([]api.Fault, count)}, smallAfter(n), smallResults(n), api.OK)
		}
		doneAll(t, h, run{l[:n], nil}, smallAfter(n), smallResults(n), api.OK)
	}
}

// P9.3: the i-th access has the i-th fault, and no other one; those behind the last fault have none.
func TestAllFaults(t *testing.T) {
	h := hardware(fuses("wib"), "s")
	weak := slices.Repeat([]api.Access{readFuse(0, 0)}, 6)
	for count := range 9 {
		for noises := range 1 << count {
			var f []api.Fault
			want := make([]api.Result, 6)
			for i := range count {
				noise := noises>>i&1 == 1
				f = append(f, api.Fault{Noise: noise, Bytes: i})
				if noise && i < 6 {
					want[i].Val = 1
				}
			}
			doneAll(t, h, run{weak, f}, h, want, api.OK)
		}
	}
}

// P9.3: All stops after the access that is cut, the first, a middle or the last one; that one has an effect, but no result.
func TestAllCut(t *testing.T) {
	h, l := small()
	for at := range l {
		f := make([]api.Fault, at+1)
		f[at] = api.Fault{Cut: true, Bytes: 256}
		want := smallAfter(at + 1)
		if at == 2 {
			want.Fuses = fuses("iiw", "www")
		}
		if at == 5 {
			want.Fuses = fuses("iib", "www")
		}
		doneAll(t, h, run{l, f}, want, smallResults(at), api.OK)
		doneAll(t, h, run{l[:at+1], f}, want, smallResults(at), api.OK)
		// Another cut behind the first one does not matter, nor do accesses that are wrong.
		doneAll(t, h, run{l, append(f, api.Fault{Cut: true}, api.Fault{Cut: true, Bytes: 4})}, want, smallResults(at), api.OK)
		doneAll(t, h, run{append(slices.Clone(l[:at+1]), api.Access{}, read(-1), write(0, filled('q', 256))), f}, want, smallResults(at), api.OK)
	}
}

// P9.3: a write that is cut in All leaves as many bytes as the fault of this access says.
func TestAllCutWrite(t *testing.T) {
	h, l := small()
	for _, n := range []int{math.MinInt, -1, 0, 1, 3, 255, 256, 257, math.MaxInt} {
		count := min(max(n, 0), 256)
		f := make([]api.Fault, 8)
		f[7] = api.Fault{Cut: true, Bytes: n}
		want := replaced(smallAfter(7), 1, filled('y', count)+filled('x', 256-count))
		doneAll(t, h, run{l, f}, want, smallResults(7), api.OK)
		f = []api.Fault{{Cut: true, Bytes: n}, {Cut: true, Bytes: 9}}
		doneAll(t, h, run{l, f}, replaced(h, 1, filled('x', count)+filled('b', 256-count)), nil, api.OK)
	}
	// The number of bytes of another fault is not the one of the cut.
	f := []api.Fault{{Bytes: 1}, {Bytes: 2}, {Bytes: 3}, {Bytes: 4}, {}, {}, {Bytes: 6}, {Cut: true, Bytes: 100}, {Bytes: 8}}
	doneAll(t, h, run{l, f}, replaced(smallAfter(7), 1, filled('y', 100)+filled('x', 156)), smallResults(7), api.OK)
}

// P9.3: at the first error All returns the device and the results before that access, cut or not, and the error.
func TestAllError(t *testing.T) {
	h, l := small()
	for at := range len(l) + 1 {
		for _, x := range []struct {
			a   api.Access
			err api.Errno
		}{
			{api.Access{}, api.ErrArg}, {api.Access{Kind: 9}, api.ErrArg}, {readFuse(2, 0), api.ErrArg}, {pulse(0, 3), api.ErrArg}, {read(3), api.ErrNone}, {read(-1), api.ErrNone},
			{write(3, filled('q', 256)), api.ErrNone}, {write(0, "short"), api.ErrArg}, {api.Access{Kind: api.ARead, Bank: 1, Cell: 3}, api.ErrArg},
		} {
			bad := slices.Insert(slices.Clone(l), at, x.a)
			doneAll(t, h, run{bad, nil}, smallAfter(at), smallResults(at), x.err)
			doneAll(t, h, run{bad[:at+1], nil}, smallAfter(at), smallResults(at), x.err)
			f := make([]api.Fault, at+3)
			f[at] = api.Fault{Cut: true, Bytes: 256, Noise: true}
			doneAll(t, h, run{bad, f}, smallAfter(at), smallResults(at), x.err)
			// A second error behind the first one does not matter, nor does a cut there.
			f = make([]api.Fault, at+3)
			f[at+1].Cut = true
			other := read(100)
			if x.err == api.ErrNone {
				other = api.Access{}
			}
			doneAll(t, h, run{slices.Insert(bad, at+1, other, other), f}, smallAfter(at), smallResults(at), x.err)
		}
	}
}

// randomAccess returns an access that is mostly good.
func randomAccess(r *rand.Rand, h api.Hardware, badOneIn int) api.Access {
	a := api.Access{Kind: 1 + r.Intn(4)}
	if a.Kind <= 2 {
		a.Bank = r.Intn(max(1, len(h.Fuses.Banks)))
		a.Cell = r.Intn(12)
	} else {
		a.Cell = r.Intn(max(1, len(h.Flash.Sectors)))
	}
	if a.Kind == 4 {
		a.Bytes = pattern(byte(r.Intn(256)), 256)
	}
	if r.Intn(badOneIn) == 0 {
		a.Cell = numbers[r.Intn(len(numbers))]
	}
	if r.Intn(badOneIn) == 0 {
		a.Bank = r.Intn(6) - 1
	}
	if r.Intn(badOneIn) == 0 {
		a.Bytes = pattern(byte(r.Intn(256)), r.Intn(258))
	}
	return a
}

// randomFault returns a fault that is mostly no cut.
func randomFault(r *rand.Rand) api.Fault {
	return api.Fault{Cut: r.Intn(15) == 0, Bytes: r.Intn(300) - 20, Noise: r.Intn(2) == 0}
}

// randomRun returns accesses and faults, of which there may be fewer or more than accesses.
func randomRun(r *rand.Rand, h api.Hardware, badOneIn int) run {
	var x run
	for range r.Intn(20) {
		x.l = append(x.l, randomAccess(r, h, badOneIn))
	}
	for range r.Intn(25) {
		x.f = append(x.f, randomFault(r))
	}
	return x
}

// P9.3: many lists of accesses do what the other implementation says.
func TestAllRandom(t *testing.T) {
	r := rand.New(rand.NewSource(1))
	for _, h := range samples() {
		for range 300 {
			x := randomRun(r, h, 20)
			want, results, err := otherAll(h, x)
			doneAll(t, h, x, want, results, err)
		}
	}
}

// P9.3: what All does in one call, it also does in two, if the first one is neither cut nor wrong.
func TestAllSplit(t *testing.T) {
	h, l := small()
	f := []api.Fault{{}, {}, {}, {}, {}, {Bytes: 7}, {Noise: true}, {Cut: true, Bytes: 7}}
	want, results, err := All(h, l, f)
	for at := range 7 {
		g, first, errFirst := All(h, l[:at], f[:at])
		g, second, errSecond := All(g, l[at:], f[at:])
		if !equal(g, want) || !slices.Equal(append(first, second...), results) || err != api.OK || errFirst != api.OK || errSecond != api.OK {
			t.Errorf("All in two calls, split at %d, = %s, %s, %s", at, short(g), quoted(first...), quoted(second...))
		}
	}
}

// same reports an error if Same does not report want, in either order.
func same(t *testing.T, a, b api.Hardware, want bool) {
	t.Helper()
	if Same(a, b) != want || Same(b, a) != want {
		t.Errorf("Same of a %s and a %s are %t, %t", short(a), short(b), Same(a, b), Same(b, a))
	}
}

// P9.4: a device is the same as itself and as a copy, and no two samples are the same.
func TestSame(t *testing.T) {
	l := samples()
	for i, h := range l {
		same(t, h, h, true)
		same(t, h, copied(h), true)
		for _, g := range l[:i] {
			same(t, h, g, false)
		}
	}
	a, _ := New(root(1), 16, 0, 3)
	b, _ := New(root(1), 16, 0, 3)
	same(t, a, b, true)
}

// P9.4: an empty list may be nil, in every place.
func TestSameEmpty(t *testing.T) {
	same(t, api.Hardware{}, hardwareOf([][]uint8{}, []string{}), true)
	same(t, hardwareOf([][]uint8{nil, {1, 1, 1}}, nil), hardwareOf([][]uint8{{}, {1, 1, 1}}, []string{}), true)
	same(t, hardwareOf(nil, []string{""}), hardwareOf([][]uint8{}, []string{""}), true)
}

// hardwareOf returns a device with these banks and sectors.
func hardwareOf(banks [][]uint8, sectors []string) api.Hardware {
	return api.Hardware{Fuses: api.Fuses{Banks: banks}, Flash: api.Flash{Sectors: sectors}}
}

// P9.4: one byte of the root key makes a difference, at every place.
func TestSameRoot(t *testing.T) {
	for _, h := range samples() {
		for i := range h.Root {
			for _, change := range []byte{1, 128, 255} {
				g := copied(h)
				g.Root[i] ^= change
				same(t, h, g, false)
			}
		}
	}
}

// P9.4: one fuse cell makes a difference, at every place and for every two states.
func TestSameFuses(t *testing.T) {
	for _, h := range samples() {
		for b, cells := range h.Fuses.Banks {
			for c, state := range cells {
				for other := range uint8(4) {
					g := copied(h)
					g.Fuses.Banks[b][c] = other
					same(t, h, g, other == state)
				}
			}
		}
	}
}

// P9.4: the number of banks, of cells of a bank, and how cells are divided among banks make a difference.
func TestSameBanks(t *testing.T) {
	l := []string{"-", "", "|", "|||", "iii", "iiiiii", "iii|iii", "iiiiii|", "|iiiiii", "iii||iii", "iii|iii|", "iii|iii|iii|iii", "www|iii", "iii|www"}
	for i, x := range l {
		for k, y := range l {
			same(t, hardware(banksOf(x), "s"), hardware(banksOf(y), "s"), i == k)
		}
	}
}

// banksOf returns the banks that are separated by bars; there is none in "-".
func banksOf(s string) api.Fuses {
	if s == "-" {
		return api.Fuses{}
	}
	return fuses(strings.Split(s, "|")...)
}

// P9.4: one byte of one sector makes a difference, at every place.
func TestSameSectors(t *testing.T) {
	for _, h := range []api.Hardware{full(), samples()[6]} {
		for i, content := range h.Flash.Sectors {
			for place := range content {
				if place%17 != 0 && place != len(content)-1 && i != 0 {
					continue
				}
				changed := []byte(content)
				changed[place]++
				same(t, h, replaced(h, i, string(changed)), false)
			}
			same(t, h, replaced(h, i, content+"\x00"), false)
			if content != "" {
				same(t, h, replaced(h, i, content[:len(content)-1]), false)
			}
		}
	}
}

// P9.4: the number of sectors and their order make a difference.
func TestSameSectorCount(t *testing.T) {
	h := full()
	for _, n := range []int{0, 1, 2, 64, 126, 127} {
		g := copied(h)
		g.Flash.Sectors = g.Flash.Sectors[:n]
		same(t, h, g, false)
	}
	g := copied(h)
	g.Flash.Sectors = append(g.Flash.Sectors, "")
	same(t, h, g, false)
	g = copied(h)
	g.Flash.Sectors[3], g.Flash.Sectors[4] = g.Flash.Sectors[4], g.Flash.Sectors[3]
	same(t, h, g, false)
	same(t, hardware(fuses("iii"), "ab", "c"), hardware(fuses("iii"), "a", "bc"), false)
	same(t, hardware(fuses("iii")), hardware(fuses("iii"), ""), false)
}

// mayBecome are the states that a cell of each state may have later.
var mayBecome = []string{"iwb", "wb", "b", "s"}

// kept reports an error if an access changes anything that an access of this kind must not change.
func kept(t *testing.T, h, g api.Hardware, a api.Access, f api.Fault) {
	t.Helper()
	ofFuse, ofFlash := a.Kind == api.AFuse || a.Kind == api.APulse, a.Kind == api.ARead || a.Kind == api.AWrite
	if g.Root != h.Root || (ofFuse || a.Kind == api.ARead) && !slices.Equal(g.Flash.Sectors, h.Flash.Sectors) || (ofFlash || a.Kind == api.AFuse) && text(g.Fuses) != text(h.Fuses) {
		t.Errorf("a %s changes a %s to a %s", describe(a, f), short(h), short(g))
	}
	if len(g.Flash.Sectors) != len(h.Flash.Sectors) || len(g.Fuses.Banks) != len(h.Fuses.Banks) {
		t.Fatalf("a %s changes a %s to a %s", describe(a, f), short(h), short(g))
	}
	for b, cells := range h.Fuses.Banks {
		for c, state := range cells {
			if after := states[g.Fuses.Banks[b][c]]; !strings.Contains(mayBecome[state], string(after)) {
				t.Errorf("a %s changes the cell %d, %d from %c to %c", describe(a, f), b, c, states[state], after)
			}
		}
	}
}

// P9.5: reading changes nothing, an access to the fuses or to the flash memory does not change the other one, none changes the root key, and cells only wear: for every access of many.
func TestAccessesKeep(t *testing.T) {
	for _, h := range samples() {
		for _, a := range accessesOf(h) {
			for _, f := range []api.Fault{{}, {Cut: true, Bytes: 9}, {Cut: true, Bytes: 256, Noise: true}} {
				g, _, _ := Do(h, a, f)
				kept(t, h, g, a, f)
			}
		}
	}
}

// levelKept reports an error if the level of a bank is lower afterwards: the least one, the greatest one, and so the one that is read.
func levelKept(t *testing.T, h, g api.Hardware) {
	t.Helper()
	for b := range h.Fuses.Banks {
		if fuse.Least(g.Fuses, b) < fuse.Least(h.Fuses, b) || fuse.Most(g.Fuses, b) < fuse.Most(h.Fuses, b) {
			t.Errorf("the level of bank %d falls from %s to %s", b, text(h.Fuses), text(g.Fuses))
		}
	}
}

// P9.5: whatever is executed one after the other, cells only wear and no level falls.
func TestSequencesKeep(t *testing.T) {
	r := rand.New(rand.NewSource(2))
	for _, h := range samples() {
		for range 20 {
			first := h
			for range 60 {
				a, f := randomAccess(r, h, 10), randomFault(r)
				g, _, _ := Do(h, a, f)
				kept(t, h, g, a, f)
				levelKept(t, h, g)
				h = g
			}
			x := randomRun(r, h, 50)
			g, _, _ := All(h, x.l, x.f)
			levelKept(t, h, g)
			levelKept(t, first, g)
		}
	}
}

// P9.5: the level that is read cell by cell without noise never decreases, while the cells of a bank are pulsed with and without cuts.
func TestLevelRead(t *testing.T) {
	r := rand.New(rand.NewSource(3))
	for range 30 {
		h, _ := New(root(1), 3)
		h.Fuses.Banks[0][r.Intn(9)] = api.CellStuck
		level := 0
		for range 60 {
			h, _, _ = Do(h, pulse(0, r.Intn(9)), api.Fault{Cut: r.Intn(3) == 0})
			now := levelOf(h)
			if now < level {
				t.Fatalf("the level falls from %d to %d", level, now)
			}
			level = now
		}
		h, _, _ = All(h, []api.Access{pulse(0, 0), pulse(0, 1), pulse(0, 2), pulse(0, 3), pulse(0, 4), pulse(0, 5), pulse(0, 6), pulse(0, 7), pulse(0, 8)}, nil)
		if levelOf(h) != 3 {
			t.Errorf("the level of %s is %d", text(h.Fuses), levelOf(h))
		}
	}
}

// levelOf returns the level of bank 0 as it is read by accesses.
func levelOf(h api.Hardware) int {
	for i := range len(h.Fuses.Banks[0]) / 3 {
		_, r, _ := All(h, []api.Access{readFuse(0, 3*i), readFuse(0, 3*i+1), readFuse(0, 3*i+2)}, nil)
		if r[0].Val+r[1].Val+r[2].Val < 2 {
			return i
		}
	}
	return len(h.Fuses.Banks[0]) / 3
}

// spoil changes everything that can be reached from h.
func spoil(h api.Hardware) {
	for i, cells := range h.Fuses.Banks {
		cells = cells[:cap(cells)]
		for c := range cells {
			cells[c] = (cells[c] + 1) % 4
		}
		h.Fuses.Banks[i] = nil
	}
	for i := range h.Flash.Sectors[:cap(h.Flash.Sectors)] {
		h.Flash.Sectors[:cap(h.Flash.Sectors)][i] = "spoiled"
	}
}

// spoilRun changes everything that can be reached from accesses and faults.
func spoilRun(x run) {
	for i := range x.l {
		x.l[i] = api.Access{Kind: 77, Bytes: "spoiled"}
	}
	for i := range x.f {
		x.f[i] = api.Fault{Cut: true, Bytes: 77}
	}
}

// The chapter's opening and section Memory of DOC.md: what happens to the result of Do does not change the device before it, and vice versa.
func TestDoMemory(t *testing.T) {
	for _, sample := range samples() {
		for _, a := range []api.Access{{}, readFuse(0, 0), readFuse(9, 9), pulse(0, 0), pulse(0, 1), pulse(2, 0), pulse(9, 9), read(0), read(500), write(0, filled('z', 256)), write(0, "short"), write(500, filled('z', 256))} {
			for _, f := range []api.Fault{{}, {Cut: true}, {Cut: true, Bytes: 3, Noise: true}} {
				h := copied(sample)
				g, _, _ := Do(h, a, f)
				after := copied(g)
				spoil(g)
				if !equal(h, sample) {
					t.Fatalf("changing the result of a %s changed a %s to a %s", describe(a, f), short(sample), short(h))
				}
				g, _, _ = Do(h, a, f)
				spoil(h)
				if !equal(g, after) {
					t.Fatalf("changing the argument of a %s on a %s changed the result to a %s", describe(a, f), short(sample), short(g))
				}
			}
		}
	}
}

// The chapter's opening and section Memory of DOC.md: what happens to the results of All does not change its arguments, and vice versa.
func TestAllMemory(t *testing.T) {
	r := rand.New(rand.NewSource(4))
	for _, sample := range samples() {
		for range 100 {
			h, x := copied(sample), randomRun(r, sample, 20)
			l, f := slices.Clone(x.l), slices.Clone(x.f)
			g, results, _ := All(h, x.l, x.f)
			after, resultsAfter := copied(g), slices.Clone(results)
			spoil(g)
			clear(results[:cap(results)])
			if !equal(h, sample) || !slices.Equal(x.l, l) || !slices.Equal(x.f, f) {
				t.Fatalf("changing the results of All changed its arguments to a %s, %v, %v", short(h), x.l, x.f)
			}
			g, results, _ = All(h, x.l, x.f)
			spoil(h)
			spoilRun(x)
			if !equal(g, after) || !slices.Equal(results, resultsAfter) {
				t.Fatalf("changing the arguments of All changed its results to a %s, %s", short(g), quoted(results...))
			}
		}
	}
}

// The chapter's opening and section Memory of DOC.md: banks and sectors that share arrays, or have more capacity than elements, are changed one by one.
func TestSharedArrays(t *testing.T) {
	array, sectors := bank("iii iii iii iii"), patterns(6)
	h := hardwareOf([][]uint8{array[:6], array[6:9], array[:3], array[9:]}, sectors[1:3])
	for b, want := range []string{"biiiii|iii|iii|iii", "iiiiii|bii|iii|iii", "iiiiii|iii|bii|iii", "iiiiii|iii|iii|bii"} {
		g, _, err := Do(h, pulse(b, 0), api.Fault{})
		if text(g.Fuses) != want || err != api.OK {
			t.Errorf("a pulse of bank %d = %s, %d", b, text(g.Fuses), err)
		}
		g, _, err = All(h, []api.Access{pulse(b, 0), write(1, filled('z', 256))}, nil)
		if text(g.Fuses) != want || g.Flash.Sectors[1] != filled('z', 256) || err != api.OK {
			t.Errorf("a pulse of bank %d and a write = %s, %d", b, text(g.Fuses), err)
		}
		for i := range g.Fuses.Banks {
			_ = append(g.Fuses.Banks[i], 3, 3, 3)
		}
		_ = append(g.Flash.Sectors, "y", "z")
		if string(array) != string(bank("iii iii iii iii")) || !slices.Equal(sectors, patterns(6)) {
			t.Fatalf("the arrays are %v, %q", array, sectors)
		}
	}
}

// outcome returns what all functions return for h, as a text.
func outcome(h api.Hardware, l []api.Access, f []api.Fault) string {
	var s strings.Builder
	made, err := New(h.Root, len(h.Fuses.Banks))
	fmt.Fprintln(&s, made, err, Same(h, made), Same(h, h))
	for i, a := range l {
		fmt.Fprint(&s, "\n", a.Kind)
		for _, x := range f {
			g, r, err := Do(h, a, x)
			fmt.Fprint(&s, text(g.Fuses), len(g.Flash.Sectors), r, err, Same(g, h))
		}
		g, r, err := All(h, l[i:], f)
		fmt.Fprint(&s, g, r, err)
	}
	return s.String()
}

// outcomeOf returns what all functions return for a sample and the same accesses and faults in each call.
func outcomeOf(h api.Hardware) string {
	l := []api.Access{readFuse(0, 0), write(0, filled('z', 256)), read(0), pulse(0, 1), readFuse(0, 1), write(1, filled('y', 256)), pulse(1, 2), read(1), read(500)}
	return outcome(h, l, []api.Fault{{}, {Noise: true}, {}, {}, {}, {Cut: true, Bytes: 5}})
}

// Section State of DOC.md: what a call returns does not depend on other calls, be they before it or at the same time.
func TestCallsIndependent(t *testing.T) {
	var want []string
	for _, h := range samples() {
		want = append(want, outcomeOf(h))
	}
	var wait sync.WaitGroup
	for worker := range 4 {
		wait.Go(func() {
			all := samples()
			for k := range all {
				i := (2*k + worker) % len(all)
				if got := outcomeOf(all[i]); got != want[i] {
					t.Errorf("worker %d: the results for a %s have changed", worker, short(all[i]))
				}
			}
		})
	}
	wait.Wait()
}

// Section State of DOC.md: calls at the same time may use the same device.
func TestSharedHardware(t *testing.T) {
	for _, h := range []api.Hardware{full(), samples()[6]} {
		want := outcomeOf(h)
		var wait sync.WaitGroup
		for range 8 {
			wait.Go(func() {
				if got := outcomeOf(h); got != want {
					t.Error("the results have changed")
				}
			})
		}
		wait.Wait()
	}
}

// P1: fuses that are not valid are outside the contract, but nothing panics or runs on.
func TestInvalidFuses(t *testing.T) {
	for _, banks := range [][][]uint8{{{0}}, {{2, 2}}, {{4, 255, 128}}, make([][]uint8, 9), {make([]uint8, 1000), {9, 9, 9, 9}}} {
		h := hardwareOf(banks, []string{"abc", pattern(1, 256)})
		Same(h, h)
		for _, a := range accessesOf(h) {
			for _, f := range []api.Fault{{}, {Cut: true, Bytes: 2}} {
				Do(h, a, f)
				All(h, []api.Access{a, a}, []api.Fault{f})
			}
		}
	}
}
