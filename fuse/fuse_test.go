package fuse

import (
	"fmt"
	"math"
	"math/rand"
	"reflect"
	"slices"
	"strings"
	"sync"
	"testing"

	"bootchain/api"
)

// states are the letters of the four states, in the order of their numbers: intact, weak, blown, stuck.
const states = "iwbs"

// bank returns the cells that letters stand for; blanks only separate.
func bank(letters string) []uint8 {
	cells := []uint8{}
	for _, c := range strings.ReplaceAll(letters, " ", "") {
		cells = append(cells, uint8(strings.IndexRune(states, c)))
	}
	return cells
}

// fuses returns the fuses whose banks are given as letters.
func fuses(banks ...string) api.Fuses {
	var f api.Fuses
	for _, letters := range banks {
		f.Banks = append(f.Banks, bank(letters))
	}
	return f
}

// letters returns the letters of the states of cells.
func letters(cells []uint8) string {
	var s strings.Builder
	for i, state := range cells {
		if i > 0 && i%3 == 0 {
			s.WriteByte(' ')
		}
		s.WriteByte(states[state])
	}
	return s.String()
}

// text returns the letters of all banks.
func text(f api.Fuses) string {
	var l []string
	for _, cells := range f.Banks {
		l = append(l, letters(cells))
	}
	return strings.Join(l, "|")
}

// copied returns fuses that share no memory with f.
func copied(f api.Fuses) api.Fuses {
	var g api.Fuses
	for _, cells := range f.Banks {
		g.Banks = append(g.Banks, append([]uint8{}, cells...))
	}
	return g
}

// everyBank calls do with each bank of so many cells.
func everyBank(cells int, do func(cells []uint8)) {
	for n := range 1 << (2 * cells) {
		c := make([]uint8, cells)
		for i := range c {
			c[i] = uint8(n >> (2 * i) & 3)
		}
		do(c)
	}
}

// randomFuses returns valid fuses, most of whose cells are in the state mostly.
func randomFuses(r *rand.Rand, mostly uint8) api.Fuses {
	var f api.Fuses
	for range r.Intn(5) {
		cells := make([]uint8, 3*r.Intn(17))
		for i := range cells {
			cells[i] = mostly
			if r.Intn(5) == 0 {
				cells[i] = uint8(r.Intn(4))
			}
		}
		f.Banks = append(f.Banks, cells)
	}
	return f
}

// ones returns a 0 or 1 for each cell of a bank: what it reads as, if the weak cells read as the bits of noise say.
func ones(cells []uint8, noise int) string {
	var s strings.Builder
	weak := 0
	for _, state := range cells {
		switch states[state] {
		case 'b':
			s.WriteByte('1')
		case 'w':
			s.WriteByte("01"[noise>>weak&1])
			weak++
		default:
			s.WriteByte('0')
		}
	}
	return s.String()
}

// otherLevel is the level of a bank with these readings, computed in another way than Least and Most do it.
func otherLevel(readings string) int {
	for n := 0; ; n++ {
		if len(readings) == 0 || !slices.Contains([]string{"011", "101", "110", "111"}, readings[:3]) {
			return n
		}
		readings = readings[3:]
	}
}

// allWeak is the noise that makes every weak cell read as 1.
const allWeak = -1

// otherSound reports whether no bit of a bank has two or more stuck cells.
func otherSound(cells []uint8) bool {
	for bit := range strings.FieldsSeq(letters(cells)) {
		if strings.Count(bit, "s") >= 2 {
			return false
		}
	}
	return true
}

// far are numbers that are no bank and no cell of any valid fuses.
var far = []int{-1, -2, -3, -48, -49, 48, 49, 255, 256, 1 << 16, 1 << 31, 1 << 32, -1 << 31, -1 << 32, 1 << 62, math.MaxInt, math.MaxInt - 1, math.MinInt, math.MinInt + 1}

// noBank returns numbers that are no bank of f.
func noBank(f api.Fuses) []int {
	return append([]int{len(f.Banks), len(f.Banks) + 1, api.MaxBank, api.MaxBank + 1}, far...)
}

// samples are valid fuses of all kinds.
func samples() []api.Fuses {
	l := []api.Fuses{
		{},
		{Banks: [][]uint8{}},
		{Banks: [][]uint8{nil}},
		{Banks: [][]uint8{nil, {}, nil, {}}},
		fuses("iii"), fuses("www"), fuses("bbb"), fuses("sss"), fuses("iwb"), fuses("sbw", "", "iwb sis"),
		fuses(strings.Repeat("iwbs", 12), strings.Repeat("bbb", 16), strings.Repeat("w", 48), strings.Repeat("ssb", 16)),
	}
	r := rand.New(rand.NewSource(1))
	for range 25 {
		for state := range uint8(4) {
			l = append(l, randomFuses(r, state))
		}
	}
	return l
}

// created reports an error if New does not return intact fuses with these numbers of logical bits.
func created(t *testing.T, bits ...int) {
	t.Helper()
	f, err := New(bits...)
	if err != api.OK || len(f.Banks) != len(bits) {
		t.Fatalf("New of %d = %v, %d", bits, f, err)
	}
	for i, n := range bits {
		if len(f.Banks[i]) != 3*n || Width(f, i) != n {
			t.Errorf("New of %d: bank %d has %d cells and the width %d", bits, i, len(f.Banks[i]), Width(f, i))
		}
		for _, state := range f.Banks[i] {
			if state != api.CellIntact {
				t.Errorf("New of %d: bank %d is %v", bits, i, f.Banks[i])
			}
		}
	}
	if !Valid(f) {
		t.Errorf("New of %d returns invalid fuses", bits)
	}
}

// notCreated reports an error if New returns fuses.
func notCreated(t *testing.T, bits ...int) {
	t.Helper()
	if f, err := New(bits...); err != api.ErrArg || len(f.Banks) != 0 {
		t.Errorf("New of %d = %v, %d", bits, f, err)
	}
}

// P7.1: New returns a bank for each argument, with that many logical bits.
func TestNew(t *testing.T) {
	created(t)
	for a := range 17 {
		created(t, a)
		for b := range 17 {
			created(t, a, b)
			created(t, a, b, 16-a)
			created(t, 16, a, 0, b)
		}
	}
	created(t, []int{16, 16, 16, 16}...)
	created(t, []int{}...)
	created(t, []int(nil)...)
}

// P7.1: New refuses more than four arguments, all of them good.
func TestNewTooMany(t *testing.T) {
	for n := 5; n < 40; n++ {
		for _, width := range []int{0, 1, 16} {
			notCreated(t, slices.Repeat([]int{width}, n)...)
		}
	}
	notCreated(t, make([]int, 1<<16)...)
	notCreated(t, 17, 1, 1, 1, 1)
	notCreated(t, 1, 1, 1, 1, -1)
}

// P7.1: New refuses an argument that is not from 0 to 16, at any place.
func TestNewBadWidth(t *testing.T) {
	for _, bad := range append([]int{17, 18, 32, 33, 1<<16 + 1, 1<<32 + 1, 1<<63 - 16}, far...) {
		for n := 1; n <= 4; n++ {
			for place := range n {
				for _, width := range []int{0, 1, 16} {
					bits := slices.Repeat([]int{width}, n)
					bits[place] = bad
					notCreated(t, bits...)
				}
			}
			notCreated(t, slices.Repeat([]int{bad}, n)...)
		}
	}
}

// P7.1: the banks of new fuses are not the same memory, nor are those of two calls.
func TestNewMemory(t *testing.T) {
	bits := []int{2, 2, 2, 2}
	f, _ := New(bits...)
	g, _ := New(bits...)
	for i, cells := range f.Banks {
		cells[0] = uint8(i)
		_ = append(cells, 3)
	}
	if text(f) != "iii iii|wii iii|bii iii|sii iii" || text(g) != "iii iii|iii iii|iii iii|iii iii" {
		t.Error(text(f), text(g))
	}
	if !slices.Equal(bits, []int{2, 2, 2, 2}) {
		t.Error("New changed its arguments to", bits)
	}
}

// P7.1: valid fuses have at most four banks.
func TestValidBanks(t *testing.T) {
	for _, cells := range [][]uint8{nil, {}, bank("iii"), bank("iwb sss"), make([]uint8, 48)} {
		for n := range 20 {
			f := api.Fuses{Banks: slices.Repeat([][]uint8{cells}, n)}
			if Valid(f) != (n <= 4) {
				t.Errorf("Valid of %d banks of %d cells is %t", n, len(cells), Valid(f))
			}
		}
	}
}

// P7.1: the number of cells of every bank is a multiple of three and at most 48.
func TestValidCells(t *testing.T) {
	for _, state := range []uint8{0, 3} {
		for n := range 600 {
			cells := slices.Repeat([]uint8{state}, n)
			want := n%3 == 0 && n <= 48
			for banks := 1; banks <= 4; banks++ {
				for place := range banks {
					f := api.Fuses{Banks: slices.Repeat([][]uint8{bank("iii")}, banks)}
					f.Banks[place] = cells
					if Valid(f) != want {
						t.Errorf("Valid of %d cells in bank %d of %d is %t", n, place, banks, Valid(f))
					}
				}
			}
		}
	}
}

// P7.1: the state of every cell is one of the four.
func TestValidStates(t *testing.T) {
	for state := range 256 {
		for _, place := range []struct{ bank, cell int }{{0, 0}, {0, 2}, {1, 0}, {1, 20}, {1, 47}, {3, 0}, {3, 1}, {3, 2}} {
			f := fuses("bbb", strings.Repeat("iwbs", 12), "", "www")
			f.Banks[place.bank][place.cell] = uint8(state)
			if Valid(f) != (state <= 3) {
				t.Errorf("Valid of the state %d at %v is %t", state, place, Valid(f))
			}
		}
	}
	for _, f := range samples() {
		if !Valid(f) {
			t.Errorf("Valid of %s is false", text(f))
		}
	}
}

// P7.1: Width is the number of logical bits of a bank, and -1 for a bank that does not exist.
func TestWidth(t *testing.T) {
	f := fuses("", "iii", "sss bbb", strings.Repeat("w", 48))
	for i, want := range []int{0, 1, 2, 16} {
		if Width(f, i) != want {
			t.Errorf("Width of bank %d is %d", i, Width(f, i))
		}
	}
	for _, f := range samples() {
		for i, cells := range f.Banks {
			if Width(f, i) != len(cells)/3 {
				t.Errorf("Width of %s, %d is %d", text(f), i, Width(f, i))
			}
		}
		for _, no := range noBank(f) {
			if Width(f, no) != -1 {
				t.Errorf("Width of %s, %d is %d", text(f), no, Width(f, no))
			}
		}
	}
}

// P7.2: a cell reads as its state says.
func TestRead(t *testing.T) {
	f := fuses("iwb", "", "sbw iii")
	for _, x := range []struct {
		bank, cell   int
		quiet, noisy int
	}{{0, 0, 0, 0}, {0, 1, 0, 1}, {0, 2, 1, 1}, {2, 0, 0, 0}, {2, 1, 1, 1}, {2, 2, 0, 1}, {2, 3, 0, 0}, {2, 5, 0, 0}} {
		if n, err := Read(f, x.bank, x.cell, false); n != x.quiet || err != api.OK {
			t.Errorf("Read of %d, %d = %d, %d", x.bank, x.cell, n, err)
		}
		if n, err := Read(f, x.bank, x.cell, true); n != x.noisy || err != api.OK {
			t.Errorf("Read of %d, %d with noise = %d, %d", x.bank, x.cell, n, err)
		}
	}
}

// P7.2: every cell of many fuses reads as its own state says, whatever is around it.
func TestReadAll(t *testing.T) {
	for _, f := range samples() {
		for b, cells := range f.Banks {
			quiet, noisy := ones(cells, 0), ones(cells, allWeak)
			for c := range cells {
				n, err := Read(f, b, c, false)
				m, errNoisy := Read(f, b, c, true)
				if n != int(quiet[c]-'0') || m != int(noisy[c]-'0') || err != api.OK || errNoisy != api.OK {
					t.Errorf("Read of %s, %d, %d = %d, %d and %d, %d", text(f), b, c, n, err, m, errNoisy)
				}
			}
		}
	}
}

// noCells calls do with places that are no cells of f.
func noCells(f api.Fuses, do func(bank, cell int)) {
	for _, no := range noBank(f) {
		for _, c := range []int{0, 1, 2, 3, 47, 48, -1, math.MaxInt, math.MinInt} {
			do(no, c)
		}
	}
	for b, cells := range f.Banks {
		for _, no := range append([]int{len(cells), len(cells) + 1}, far...) {
			do(b, no)
		}
	}
}

// P7.2: Read refuses a cell that does not exist.
func TestReadNoCell(t *testing.T) {
	for _, f := range samples() {
		noCells(f, func(b, c int) {
			for _, noise := range []bool{false, true} {
				if n, err := Read(f, b, c, noise); n != 0 || err != api.ErrArg {
					t.Errorf("Read of %s, %d, %d = %d, %d", text(f), b, c, n, err)
				}
			}
		})
	}
}

// P7.3: a pulse changes a cell as the state of the cell and cut say.
func TestPulse(t *testing.T) {
	f := fuses("iwb", "", "sis", "www bbb")
	for _, x := range []struct {
		bank, cell int
		cut        bool
		want       string
	}{
		{0, 0, false, "bwb||sis|www bbb"}, {0, 0, true, "wwb||sis|www bbb"},
		{0, 1, false, "ibb||sis|www bbb"}, {0, 1, true, "iwb||sis|www bbb"},
		{0, 2, false, "iwb||sis|www bbb"}, {0, 2, true, "iwb||sis|www bbb"},
		{2, 0, false, "iwb||sis|www bbb"}, {2, 0, true, "iwb||sis|www bbb"},
		{2, 1, false, "iwb||sbs|www bbb"}, {2, 1, true, "iwb||sws|www bbb"},
		{3, 2, false, "iwb||sis|wwb bbb"}, {3, 2, true, "iwb||sis|www bbb"},
		{3, 5, false, "iwb||sis|www bbb"}, {3, 5, true, "iwb||sis|www bbb"},
	} {
		if g, err := Pulse(f, x.bank, x.cell, x.cut); text(g) != x.want || err != api.OK {
			t.Errorf("Pulse of %d, %d, %t = %s, %d, want %s", x.bank, x.cell, x.cut, text(g), err, x.want)
		}
	}
}

// P7.3: a pulse of any cell of many fuses changes this cell as it should, and no other one.
func TestPulseAll(t *testing.T) {
	for _, f := range samples() {
		for b, cells := range f.Banks {
			for c, state := range cells {
				for cut, after := range map[bool]string{false: "bbbs", true: "wwbs"} {
					want := copied(f)
					want.Banks[b][c] = bank(after)[state]
					if g, err := Pulse(f, b, c, cut); text(g) != text(want) || err != api.OK || !Valid(g) {
						t.Errorf("Pulse of %s, %d, %d, %t = %s, %d", text(f), b, c, cut, text(g), err)
					}
				}
			}
		}
	}
}

// P7.3: Pulse returns the fuses as they were together with ErrArg if there is no such cell.
func TestPulseNoCell(t *testing.T) {
	for _, f := range samples() {
		noCells(f, func(b, c int) {
			for _, cut := range []bool{false, true} {
				if g, err := Pulse(f, b, c, cut); !reflect.DeepEqual(g, f) || err != api.ErrArg {
					t.Errorf("Pulse of %s, %d, %d, %t = %s, %d", text(f), b, c, cut, text(g), err)
				}
			}
		})
	}
}

// P7.3: repeated pulses of one cell end in a blown one; a blown or stuck cell stays as it is.
func TestPulseTwice(t *testing.T) {
	for _, x := range []struct{ first, pulses, want string }{
		{"i", "c", "w"}, {"i", "cc", "w"}, {"i", "ccccc", "w"}, {"i", "cp", "b"}, {"i", "cpc", "b"}, {"i", "pc", "b"}, {"i", "pp", "b"},
		{"w", "pccp", "b"}, {"b", "cpcp", "b"}, {"s", "pcpcpp", "s"},
	} {
		f := fuses("iii", x.first+"ws")
		for _, p := range x.pulses {
			f, _ = Pulse(f, 1, 0, p == 'c')
		}
		if text(f) != "iii|"+x.want+"ws" {
			t.Errorf("%s after %s is %s", x.first, x.pulses, text(f))
		}
	}
}

// spoil changes everything that can be reached from f.
func spoil(f api.Fuses) {
	for i, cells := range f.Banks {
		for c := range cells {
			cells[c] = (cells[c] + 1) % 4
		}
		clear(cells[len(cells):cap(cells)])
		f.Banks[i] = nil
	}
}

// P7.3 and section Memory of DOC.md: the fuses that were passed to Pulse are as before, whatever is done with the result; and the result stays as it is when the fuses are changed.
func TestPulseMemory(t *testing.T) {
	check := func(f api.Fuses, b, c int, cut bool) {
		before := copied(f)
		g, _ := Pulse(f, b, c, cut)
		if text(f) != text(before) {
			t.Fatalf("Pulse of %d, %d, %t changed %s to %s", b, c, cut, text(before), text(f))
		}
		after := copied(g)
		spoil(g)
		if text(f) != text(before) || len(f.Banks) != len(before.Banks) {
			t.Fatalf("changing the result of Pulse of %d, %d, %t changed %s to %s", b, c, cut, text(before), text(f))
		}
		h, _ := Pulse(f, b, c, cut)
		spoil(f)
		if text(h) != text(after) {
			t.Fatalf("changing the argument of Pulse of %d, %d, %t changed its result %s to %s", b, c, cut, text(after), text(h))
		}
	}
	for _, f := range samples() {
		for b, cells := range f.Banks {
			for c := -1; c <= len(cells); c += 7 {
				check(copied(f), b, c, false)
				check(copied(f), b, c, true)
			}
		}
		check(copied(f), len(f.Banks), 0, false)
		check(copied(f), -1, 0, true)
	}
}

// P7.3 and section Memory of DOC.md: banks that share an array, or have more capacity than cells, are pulsed one by one.
func TestPulseSharedArray(t *testing.T) {
	array := bank("iii iii iii iii")
	f := api.Fuses{Banks: [][]uint8{array[:6], array[6:9], array[:3], array[9:]}}
	for b, want := range []string{"bii iii|iii|iii|iii", "iii iii|bii|iii|iii", "iii iii|iii|bii|iii", "iii iii|iii|iii|bii"} {
		g, err := Pulse(f, b, 0, false)
		if text(g) != want || err != api.OK {
			t.Errorf("Pulse of bank %d = %s, %d", b, text(g), err)
		}
		for i := range g.Banks {
			_ = append(g.Banks[i], 3, 3, 3)
		}
		if letters(array) != "iii iii iii iii" {
			t.Fatal("the array is", letters(array))
		}
	}
}

// levels reports an error if the levels of a bank are others.
func levels(t *testing.T, f api.Fuses, b, least, most int) {
	t.Helper()
	if l, m := Least(f, b), Most(f, b); l != least || m != most {
		t.Errorf("Least and Most of %s, %d = %d, %d, want %d, %d", text(f), b, l, m, least, most)
	}
}

// P7.4: the examples of the chapter, and other banks whose levels are easy to tell.
func TestLevels(t *testing.T) {
	for _, x := range []struct {
		cells       string
		least, most int
	}{
		{"bbi", 1, 1}, {"bwi", 0, 1}, {"ssb", 0, 0},
		{"", 0, 0}, {"iii", 0, 0}, {"www", 0, 1}, {"bbb", 1, 1}, {"sss", 0, 0}, {"bii", 0, 0}, {"wii", 0, 0}, {"sbb", 1, 1}, {"sww", 0, 1}, {"ssw", 0, 0},
		{"bbb bbb", 2, 2}, {"bbb www", 1, 2}, {"www bbb", 0, 2}, {"iii bbb", 0, 0}, {"iii www", 0, 0}, {"bbb iii bbb", 1, 1}, {"wwi iii www", 0, 1},
		{"bib ibb bbi", 3, 3}, {"bbs bsb wbb", 3, 3}, {"bbb bii bbb", 1, 1}, {"bbb wiw bbb", 1, 3}, {"bbb wwb bbb bis", 1, 3},
		// Two cells side by side that are copies of two bits make up no majority.
		{"iib bii", 0, 0}, {"ibb bii", 1, 1}, {"iiw wii", 0, 0},
		{strings.Repeat("bbb ", 16), 16, 16}, {strings.Repeat("bbw ", 15) + "wbs", 15, 16}, {strings.Repeat("wwi ", 16), 0, 16}, {strings.Repeat("iii ", 16), 0, 0},
		{"bbb " + strings.Repeat("sww ", 14) + "iib", 1, 15},
	} {
		levels(t, fuses(x.cells), 0, x.least, x.most)
	}
}

// P7.4: every combination of the states of one bit, alone and above or below another bit.
func TestLevelsOfOneBit(t *testing.T) {
	everyBank(3, func(cells []uint8) {
		least, most := otherLevel(ones(cells, 0)), otherLevel(ones(cells, allWeak))
		bit := letters(cells)
		levels(t, fuses(bit), 0, least, most)
		levels(t, fuses("iii"+bit), 0, 0, 0)
		levels(t, fuses("bis"+bit), 0, 0, 0)
		levels(t, fuses("bbb"+bit), 0, 1+least, 1+most)
		levels(t, fuses("www"+bit), 0, 0, 1+most)
		levels(t, fuses("bbs"+bit+"iib"), 0, 1+least, 1+most)
		levels(t, fuses(bit+"bbb"), 0, 2*least, 2*most)
		levels(t, fuses(bit+"iww"), 0, least, 2*most)
	})
}

// P7.4: every bank of two bits, and every one of three bits, has the levels that the other implementation finds.
func TestLevelsOfAllBanks(t *testing.T) {
	for _, n := range []int{0, 6, 9} {
		everyBank(n, func(cells []uint8) {
			f := api.Fuses{Banks: [][]uint8{cells}}
			if least, most := Least(f, 0), Most(f, 0); least != otherLevel(ones(cells, 0)) || most != otherLevel(ones(cells, allWeak)) {
				t.Errorf("Least and Most of %s = %d, %d", letters(cells), least, most)
			}
		})
	}
}

// P7.4: the level of a bank depends on no other bank, and is -1 if there is no such bank.
func TestLevelsOfManyBanks(t *testing.T) {
	f := fuses("", "bbb wbw iii", strings.Repeat("bbi", 16), "iii")
	for b, x := range [][2]int{{0, 0}, {1, 2}, {16, 16}, {0, 0}} {
		levels(t, f, b, x[0], x[1])
	}
	for _, f := range samples() {
		for b, cells := range f.Banks {
			levels(t, f, b, otherLevel(ones(cells, 0)), otherLevel(ones(cells, allWeak)))
		}
		for _, no := range noBank(f) {
			levels(t, f, no, -1, -1)
		}
	}
}

// P7.5: fuses are sound if no bit has two or more stuck cells; two stuck cells that lie side by side in two bits do not matter.
func TestSound(t *testing.T) {
	for _, x := range []struct {
		cells string
		want  bool
	}{
		{"", true}, {"iii", true}, {"www", true}, {"bbb", true}, {"sii", true}, {"isi", true}, {"iis", true}, {"bsw", true},
		{"ssi", false}, {"sis", false}, {"iss", false}, {"sss", false}, {"ssb", false}, {"sws", false}, {"bss", false},
		{"iis sii", true}, {"bbs sbb", true}, {"isi sii iis sii", true}, {"iii ssi", false}, {"iis iss", false}, {"sii sii sis", false}, {"sss iii", false},
		{strings.Repeat("wsb", 16), true}, {strings.Repeat("wsb", 15) + "sbs", false}, {"ssw" + strings.Repeat("wbb", 15), false}, {strings.Repeat("ibb", 8) + "sis" + strings.Repeat("ibb", 7), false},
	} {
		good := strings.Repeat("bis", 16)
		for place := range 4 {
			banks := []string{good, "", good, "iii"}
			banks[place] = x.cells
			for n := place + 1; n <= 4; n++ {
				if f := fuses(banks[:n]...); Sound(f) != x.want {
					t.Errorf("Sound of %s is %t", text(f), !x.want)
				}
			}
		}
	}
	for _, f := range []api.Fuses{{}, {Banks: [][]uint8{}}, {Banks: make([][]uint8, 4)}} {
		if !Sound(f) {
			t.Errorf("Sound of %d banks without cells is false", len(f.Banks))
		}
	}
}

// P7.5: every bank of one bit and of two bits, and many fuses, are sound if the other implementation says so.
func TestSoundAll(t *testing.T) {
	for _, n := range []int{3, 6} {
		everyBank(n, func(cells []uint8) {
			if f := (api.Fuses{Banks: [][]uint8{cells}}); Sound(f) != otherSound(cells) {
				t.Errorf("Sound of %s is %t", text(f), Sound(f))
			}
		})
	}
	for _, f := range samples() {
		want := true
		for _, cells := range f.Banks {
			want = want && otherSound(cells)
		}
		if Sound(f) != want {
			t.Errorf("Sound of %s is %t", text(f), !want)
		}
	}
}

// P7.6: whatever the weak cells of a bank read as, its level is from Least to Most, and both are reached.
func TestLevelOfAnyNoise(t *testing.T) {
	everyBank(6, func(cells []uint8) {
		f := api.Fuses{Banks: [][]uint8{cells}}
		seen := map[int]bool{}
		for noise := range 1 << strings.Count(letters(cells), "w") {
			// Each cell is read by Read, with noise or without.
			var readings strings.Builder
			weak := 0
			for c, state := range cells {
				n, _ := Read(f, 0, c, noise>>weak&1 == 1)
				readings.WriteByte("01"[n])
				if state == api.CellWeak {
					weak++
				}
			}
			level := otherLevel(readings.String())
			seen[level] = true
			if level < Least(f, 0) || level > Most(f, 0) {
				t.Errorf("the level of %s with the noise %b is %d, Least and Most are %d, %d", text(f), noise, level, Least(f, 0), Most(f, 0))
			}
		}
		if !seen[Least(f, 0)] || !seen[Most(f, 0)] {
			t.Errorf("no noise makes the level of %s %d or %d", text(f), Least(f, 0), Most(f, 0))
		}
	})
}

// kept reports an error if a pulse lowers a level of a bank, or changes Least although it is cut.
func kept(t *testing.T, f, g api.Fuses, cut bool) {
	t.Helper()
	for b := range f.Banks {
		if Least(g, b) < Least(f, b) || Most(g, b) < Most(f, b) || cut && Least(g, b) != Least(f, b) {
			t.Errorf("Least and Most of bank %d change from %d, %d to %d, %d from %s to %s (cut: %t)", b, Least(f, b), Most(f, b), Least(g, b), Most(g, b), text(f), text(g), cut)
		}
	}
}

// P7.6: no pulse lowers Least or Most, and one that is cut short does not change Least.
func TestPulsesKeepLevels(t *testing.T) {
	everyBank(6, func(cells []uint8) {
		f := api.Fuses{Banks: [][]uint8{cells}}
		for c := range cells {
			for _, cut := range []bool{false, true} {
				g, _ := Pulse(f, 0, c, cut)
				kept(t, f, g, cut)
			}
		}
	})
	r := rand.New(rand.NewSource(2))
	for _, f := range samples() {
		for range 40 {
			cut := r.Intn(2) == 0
			g, _ := Pulse(f, r.Intn(5), r.Intn(49), cut)
			kept(t, f, g, cut)
			f = g
		}
	}
}

// pulsedBits returns f after complete pulses of all cells of the first n bits of a bank, in an order that r gives.
func pulsedBits(f api.Fuses, b, n int, r *rand.Rand) api.Fuses {
	for _, c := range r.Perm(3 * n) {
		f, _ = Pulse(f, b, c, false)
	}
	return f
}

// P7.6: if all cells of the first n bits of a bank of sound fuses are pulsed completely, then Least is at least n.
func TestPulsedBits(t *testing.T) {
	r := rand.New(rand.NewSource(3))
	sound := 0
	check := func(f api.Fuses) {
		if !Sound(f) {
			return
		}
		sound++
		for b := range f.Banks {
			for n := range Width(f, b) + 1 {
				if g := pulsedBits(f, b, n, r); Least(g, b) < n || !Sound(g) {
					t.Errorf("Least of %s after pulses of the first %d bits of bank %d is %d", text(f), n, b, Least(g, b))
				}
			}
		}
	}
	everyBank(6, func(cells []uint8) { check(api.Fuses{Banks: [][]uint8{cells}}) })
	for _, f := range samples() {
		check(f)
	}
	check(fuses("sii isi iis", strings.Repeat("wsw", 16), "", strings.Repeat("i", 48)))
	if sound < 54*54 {
		t.Error("only so many fuses were sound:", sound)
	}
}

// P7.6: one stuck cell too many keeps a bit at 0 for ever: without soundness the promise would not hold.
func TestPulsedBitsUnsound(t *testing.T) {
	r := rand.New(rand.NewSource(4))
	for _, x := range []struct {
		cells string
		level int
	}{{"ssi iii", 0}, {"iii sis", 1}, {"iii iii sss", 2}} {
		f := fuses(x.cells)
		levels(t, pulsedBits(f, 0, Width(f, 0), r), 0, x.level, x.level)
	}
}

// results returns what all functions return for f, as a text.
func results(f api.Fuses) string {
	s := fmt.Sprintln(Valid(f), Sound(f))
	for b := -1; b <= len(f.Banks); b++ {
		s += fmt.Sprintln(Width(f, b), Least(f, b), Most(f, b))
		for c := -1; c <= 49; c++ {
			n, err := Read(f, b, c, c%2 == 0)
			g, errPulse := Pulse(f, b, c, c%3 == 0)
			s += fmt.Sprintln(n, err, text(g), errPulse)
		}
	}
	return s
}

// Section Memory of DOC.md: no function modifies its arguments.
func TestArgumentsNotModified(t *testing.T) {
	for _, f := range samples() {
		before := copied(f)
		results(f)
		if text(f) != text(before) || len(f.Banks) != len(before.Banks) {
			t.Errorf("%s was changed to %s", text(before), text(f))
		}
	}
}

// Section State of DOC.md: what a call returns does not depend on other calls, be they before it or at the same time.
func TestCallsIndependent(t *testing.T) {
	var want []string
	for _, f := range samples() {
		want = append(want, results(copied(f)))
	}
	var wait sync.WaitGroup
	for worker := range 4 {
		wait.Go(func() {
			all := samples()
			for k := range all {
				i := (41*k + worker) % len(all)
				if got := results(all[i]); got != want[i] {
					t.Errorf("worker %d: the results for %s have changed", worker, text(all[i]))
				}
			}
		})
	}
	wait.Wait()
}

// Section State of DOC.md: calls at the same time may use the same fuses.
func TestSharedFuses(t *testing.T) {
	f := fuses("iwb sbb", "", "www iii", strings.Repeat("bwi", 16))
	want := results(f)
	var wait sync.WaitGroup
	for range 8 {
		wait.Go(func() {
			if got := results(f); got != want {
				t.Error("the results have changed")
			}
		})
	}
	wait.Wait()
}

// P1: fuses that are not valid are outside the contract, but nothing panics or runs on.
func TestInvalidFuses(t *testing.T) {
	for _, f := range []api.Fuses{
		{Banks: [][]uint8{{0}}}, {Banks: [][]uint8{{2, 2}}}, {Banks: [][]uint8{{2, 2, 2, 2}, {3, 3, 3, 3, 3}}},
		{Banks: [][]uint8{{4, 255, 128}}}, {Banks: make([][]uint8, 9)}, {Banks: [][]uint8{make([]uint8, 1000)}},
	} {
		if Valid(f) {
			t.Errorf("Valid of %v is true", f)
		}
		Sound(f)
		for b := -1; b <= len(f.Banks); b++ {
			Width(f, b)
			Least(f, b)
			Most(f, b)
			for c := -1; c <= 1001; c++ {
				Read(f, b, c, true)
				Pulse(f, b, c, c%2 == 0)
			}
		}
	}
}
