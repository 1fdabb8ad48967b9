package ratchet

import (
	"fmt"
	"math"
	"math/rand"
	"slices"
	"strings"
	"sync"
	"testing"

	"bootchain/api"
	"bootchain/device"
	"bootchain/fuse"
)

// program is one of the two step programs, for a bank.
type program func(log []api.Result) (api.Access, api.LevelOut, bool)

func leveler(bank, bits int) program {
	return func(log []api.Result) (api.Access, api.LevelOut, bool) { return Level(bank, bits, log) }
}

func raiser(bank, bits, target int) program {
	return func(log []api.Result) (api.Access, api.LevelOut, bool) { return Raise(bank, bits, target, log) }
}

// results returns results with the digits of s as values; spaces only structure it.
func results(s string) []api.Result {
	var log []api.Result
	for _, c := range strings.ReplaceAll(s, " ", "") {
		log = append(log, api.Result{Val: int(c - '0')})
	}
	return log
}

// accesses returns the accesses to a bank that s lists: r5 reads the cell 5, p5 pulses it.
func accesses(bank int, s string) []api.Access {
	var l []api.Access
	for word := range strings.FieldsSeq(s) {
		a := api.Access{Kind: strings.Index(" rp", word[:1]), Bank: bank}
		fmt.Sscan(word[1:], &a.Cell)
		l = append(l, a)
	}
	return l
}

// stepped reports an error if a program does not return the accesses one after the other, and then the outcome, for the first results of a log; what is behind the last access does not matter.
func stepped(t *testing.T, name string, p program, log []api.Result, l []api.Access, out api.LevelOut) {
	t.Helper()
	before := slices.Clone(log)
	for k := range len(log) + 1 {
		a, s, done := p(log[:k])
		var wantAccess api.Access
		want := out
		if k < len(l) {
			wantAccess, want = l[k], api.LevelOut{}
		}
		if a != wantAccess || s != want || done != (k >= len(l)) {
			t.Errorf("%s: after %d results: %v, %v, %t, want %v, %v", name, k, a, s, done, wantAccess, want)
			return
		}
	}
	if len(log) < len(l) {
		t.Errorf("%s: the log ends before the program", name)
	}
	if !slices.Equal(log, before) {
		t.Errorf("%s: the log has changed", name)
	}
}

// one reports whether a bit whose results begin at a place of a log reads as 1.
func one(log []api.Result, at int) bool {
	a, b, c := log[at].Val != 0, log[at+1].Val != 0, log[at+2].Val != 0
	return a && b || a && c || b && c
}

// otherLevel returns all accesses of Level for a long log, and the level, found in another way than Level finds them.
func otherLevel(bank, bits int, log []api.Result) ([]api.Access, int) {
	n := 0
	for n < bits && one(log, 3*n) {
		n++
	}
	var l []api.Access
	for cell := range 3 * min(n+1, bits) {
		l = append(l, api.Access{Kind: 1, Bank: bank, Cell: cell})
	}
	for cell := range 3 * n {
		l = append(l, api.Access{Kind: 2, Bank: bank, Cell: cell})
	}
	return l, n
}

// otherRaise returns all accesses of Raise for a long log, and its outcome, found in another way than Raise finds them.
func otherRaise(bank, bits, target int, log []api.Result) ([]api.Access, api.LevelOut) {
	l, n := otherLevel(bank, bits, log)
	for bit := n; bit < target; bit++ {
		for i := range 6 {
			l = append(l, api.Access{Kind: 2 - i/3, Bank: bank, Cell: 3*bit + i%3})
		}
		if !one(log, len(l)-3) {
			return l, api.LevelOut{Level: bit, Err: 12}
		}
	}
	return l, api.LevelOut{Level: max(n, target)}
}

// longest is more than the greatest number of accesses of a program: 3 reads, and then 16 bits that are raised.
const longest = 3 + 6*16 + 3

// both reports an error if Level or Raise, with every target, does not do what the other implementation does, for a long log.
func both(t *testing.T, name string, bank, bits int, log []api.Result) {
	t.Helper()
	l, n := otherLevel(bank, bits, log)
	stepped(t, fmt.Sprint(name, ": Level ", bits), leveler(bank, bits), log, l, api.LevelOut{Level: n})
	for target := range bits + 1 {
		raised(t, name, bank, bits, target, log)
	}
}

// raised reports an error if Raise does not do what the other implementation does, for a long log.
func raised(t *testing.T, name string, bank, bits, target int, log []api.Result) {
	t.Helper()
	l, out := otherRaise(bank, bits, target, log)
	stepped(t, fmt.Sprint(name, ": Raise ", bits, " ", target), raiser(bank, bits, target), log, l, out)
}

// leading returns a long log in which n bits read as 1, then one as 0; all other results are rest.
func leading(n, rest int) []api.Result {
	log := slices.Repeat([]api.Result{{Val: rest}}, longest)
	for i := range min(3*n+3, len(log)) {
		log[i].Val = 0
		if i < 3*n {
			log[i].Val = 1
		}
	}
	return log
}

// far are numbers that are no bank and no number of bits.
var far = []int{-1, -2, -3, -4, -16, -17, 17, 18, 19, 20, 32, 48, 63, 64, 127, 128, 255, 256, 257, 1 << 16, 1<<16 + 1, 1<<31 - 1, 1 << 31, 1 << 32, 1<<32 + 1, -1 << 31, -1 << 32, 1 - 1<<32, 1 << 61, 1 << 62, 1<<62 + 1, 1 << 62 / 3, math.MaxInt / 3, math.MaxInt/3 + 1, math.MaxInt, math.MaxInt - 1, math.MaxInt - 2, math.MinInt, math.MinInt + 1, math.MinInt + 2, math.MinInt / 3}

// P11.1: the example of the chapter.
func TestExample(t *testing.T) {
	log := results("111 010 000")
	l := []api.Access{{Kind: api.AFuse, Cell: 0}, {Kind: api.AFuse, Cell: 1}, {Kind: api.AFuse, Cell: 2}, {Kind: api.AFuse, Cell: 3}, {Kind: api.AFuse, Cell: 4}, {Kind: api.AFuse, Cell: 5}, {Kind: api.APulse, Cell: 0}, {Kind: api.APulse, Cell: 1}, {Kind: api.APulse, Cell: 2}}
	stepped(t, "example", leveler(0, 4), log, l, api.LevelOut{Level: 1})
	if _, out, _, n := run(t, bank("222 020"), leveler(0, 2), -1, quiet); out != (api.LevelOut{Level: 1}) || n != 9 {
		t.Errorf("%v after %d accesses", out, n)
	}
}

// P11.1: the accesses of Level, written out.
func TestLevelTraces(t *testing.T) {
	for _, x := range []struct {
		bits  int
		log   string
		trace string
		level int
	}{
		{0, "", "", 0},
		{1, "000", "r0 r1 r2", 0},
		{1, "111 000", "r0 r1 r2 p0 p1 p2", 1},
		{2, "000", "r0 r1 r2", 0},
		{2, "100", "r0 r1 r2", 0},
		{2, "110 000 000", "r0 r1 r2 r3 r4 r5 p0 p1 p2", 1},
		{2, "101 001 111", "r0 r1 r2 r3 r4 r5 p0 p1 p2", 1},
		{2, "011 111 000 000", "r0 r1 r2 r3 r4 r5 p0 p1 p2 p3 p4 p5", 2},
		{3, "111 011 000 111 111", "r0 r1 r2 r3 r4 r5 r6 r7 r8 p0 p1 p2 p3 p4 p5", 2},
		{3, "111 101 110 000 000 000", "r0 r1 r2 r3 r4 r5 r6 r7 r8 p0 p1 p2 p3 p4 p5 p6 p7 p8", 3},
		{16, "111 010 000", "r0 r1 r2 r3 r4 r5 p0 p1 p2", 1},
	} {
		for bank := range 4 {
			more := append(results(x.log), results("111 000 101")...)
			stepped(t, x.log, leveler(bank, x.bits), more, accesses(bank, x.trace), api.LevelOut{Level: x.level})
		}
	}
}

// P11.2: the accesses of Raise, written out: the level is at least the target, or one or more bits are raised, or one of them is worn.
func TestRaiseTraces(t *testing.T) {
	for _, x := range []struct {
		bits, target int
		log          string
		trace        string
		out          api.LevelOut
	}{
		{0, 0, "", "", api.LevelOut{}},
		{1, 0, "000", "r0 r1 r2", api.LevelOut{}},
		{1, 0, "111 000", "r0 r1 r2 p0 p1 p2", api.LevelOut{Level: 1}},
		{1, 1, "111 000", "r0 r1 r2 p0 p1 p2", api.LevelOut{Level: 1}},
		{1, 1, "000 000 111", "r0 r1 r2 p0 p1 p2 r0 r1 r2", api.LevelOut{Level: 1}},
		{1, 1, "000 000 101", "r0 r1 r2 p0 p1 p2 r0 r1 r2", api.LevelOut{Level: 1}},
		{1, 1, "000 111 010", "r0 r1 r2 p0 p1 p2 r0 r1 r2", api.LevelOut{Level: 0, Err: api.ErrWorn}},
		{2, 1, "111 111 000 000", "r0 r1 r2 r3 r4 r5 p0 p1 p2 p3 p4 p5", api.LevelOut{Level: 2}},
		{2, 1, "111 000 000", "r0 r1 r2 r3 r4 r5 p0 p1 p2", api.LevelOut{Level: 1}},
		{2, 2, "111 000 000 000 110", "r0 r1 r2 r3 r4 r5 p0 p1 p2 p3 p4 p5 r3 r4 r5", api.LevelOut{Level: 2}},
		{2, 2, "111 000 000 000 100", "r0 r1 r2 r3 r4 r5 p0 p1 p2 p3 p4 p5 r3 r4 r5", api.LevelOut{Level: 1, Err: api.ErrWorn}},
		{3, 2, "000 000 111 000 111", "r0 r1 r2 p0 p1 p2 r0 r1 r2 p3 p4 p5 r3 r4 r5", api.LevelOut{Level: 2}},
		{4, 3, "000 000 000", "r0 r1 r2 p0 p1 p2 r0 r1 r2", api.LevelOut{Level: 0, Err: api.ErrWorn}},
		{4, 3, "000 000 111 000 001", "r0 r1 r2 p0 p1 p2 r0 r1 r2 p3 p4 p5 r3 r4 r5", api.LevelOut{Level: 1, Err: api.ErrWorn}},
		{4, 3, "000 000 111 000 011 000 000", "r0 r1 r2 p0 p1 p2 r0 r1 r2 p3 p4 p5 r3 r4 r5 p6 p7 p8 r6 r7 r8", api.LevelOut{Level: 2, Err: api.ErrWorn}},
		{4, 3, "000 000 111 000 011 000 111", "r0 r1 r2 p0 p1 p2 r0 r1 r2 p3 p4 p5 r3 r4 r5 p6 p7 p8 r6 r7 r8", api.LevelOut{Level: 3}},
		{16, 2, "110 000 000 000 011", "r0 r1 r2 r3 r4 r5 p0 p1 p2 p3 p4 p5 r3 r4 r5", api.LevelOut{Level: 2}},
	} {
		for bank := range 4 {
			more := append(results(x.log), results("111 000 101")...)
			stepped(t, fmt.Sprint(x.log, " to ", x.target), raiser(bank, x.bits, x.target), more, accesses(bank, x.trace), x.out)
		}
	}
}

// P11.1 and P11.2: which banks, numbers of bits and targets are valid; for the others, both programs end with ErrArg at once, whatever the log is.
func TestArguments(t *testing.T) {
	banks := append([]int{0, 1, 2, 3, 4, 5, 15, 16}, far...)
	bits := append([]int{0, 1, 2, 3, 4, 15, 16}, far...)
	targets := append([]int{0, 1, 2, 3, 4, 5, 14, 15, 16}, far...)
	logs := [][]api.Result{nil, {}, {{Val: 1}}, leading(16, 1)[:9], leading(2, 1)}
	for _, bank := range banks {
		for _, n := range bits {
			exists := 0 <= bank && bank <= 3 && 0 <= n && n <= 16
			for _, log := range logs {
				argued(t, fmt.Sprint("Level ", bank, " ", n), leveler(bank, n), log, exists)
				for _, target := range targets {
					argued(t, fmt.Sprint("Raise ", bank, " ", n, " ", target), raiser(bank, n, target), log, exists && 0 <= target && target <= n)
				}
			}
		}
	}
}

// argued reports an error if a program does not end with ErrArg at once, or if it does although its arguments are valid.
func argued(t *testing.T, name string, p program, log []api.Result, valid bool) {
	t.Helper()
	a, out, done := p(log)
	if !valid && (a != (api.Access{}) || out != (api.LevelOut{Err: api.ErrArg}) || !done) || valid && out.Err != api.OK && out.Err != api.ErrWorn {
		t.Errorf("%s after %d results: %v, %v, %t", name, len(log), a, out, done)
	}
}

// P11.1 and P11.2: a target is compared with the number of bits of the call, not with the greatest one, and with nothing else.
func TestTargets(t *testing.T) {
	for bits := range 17 {
		for n := range bits + 1 {
			for _, target := range []int{-1, 0, n - 1, n, n + 1, bits - 1, bits, bits + 1, 16, 17} {
				if target < 0 || target > bits {
					stepped(t, fmt.Sprint("Raise ", bits, " ", target), raiser(2, bits, target), leading(n, 1), nil, api.LevelOut{Err: api.ErrArg})
					continue
				}
				want := api.LevelOut{Level: max(n, target)}
				if _, out, done := Raise(2, bits, target, leading(n, 1)); out != want || !done {
					t.Errorf("Raise to %d of a level %d of %d bits: %v, %t", target, n, bits, out, done)
				}
				raised(t, "targets", 2, bits, target, leading(n, 1))
				raised(t, "targets", 2, bits, target, leading(n, 0))
			}
		}
	}
}

// P11.1: the level of banks of every size of which no bit, some bits and all bits read as 1, in every bank.
func TestLevels(t *testing.T) {
	for bank := range 4 {
		for bits := range 17 {
			for n := range bits + 1 {
				for rest := range 2 {
					log := leading(n, rest)
					l, level := otherLevel(bank, bits, log)
					if level != n || len(l) != 3*min(n+1, bits)+3*n {
						t.Fatalf("the log of the level %d has the level %d, after %d accesses", n, level, len(l))
					}
					stepped(t, "levels", leveler(bank, bits), log, l, api.LevelOut{Level: n})
				}
			}
		}
	}
}

// P11.1 and P11.2: a bit reads as 1 if at least two of its three results count as 1, in every order, when its level is read and after it was pulsed.
func TestMajority(t *testing.T) {
	for bit := range 16 {
		for combination, ones := range []int{0, 1, 1, 2, 1, 2, 2, 3} {
			level := leading(bit, 0)
			for k := range 3 {
				level[3*bit+k].Val = combination >> k & 1
			}
			want := api.LevelOut{Level: bit + ones/2}
			if _, out, done := Level(1, 16, level); out != want || !done {
				t.Errorf("the bit %d with the results %03b: %v, %t", bit, combination, out, done)
			}
			both(t, "majority", 1, 16, level)
			raise := leading(bit, 0)
			l, _ := otherLevel(1, 16, raise)
			for k := range 3 {
				raise[len(l)+3+k].Val = combination >> k & 1
			}
			if ones < 2 {
				want.Err = api.ErrWorn
			}
			if _, out, done := Raise(1, 16, bit+1, raise); out != want || !done {
				t.Errorf("the bit %d that was pulsed, with the results %03b: %v, %t", bit, combination, out, done)
			}
			raised(t, "majority", 1, 16, bit+1, raise)
		}
	}
}

// P11.1: what is above a bit that reads as 0 does not count, whatever it reads as.
func TestBitsAbove(t *testing.T) {
	for n := range 16 {
		for above := range 16 {
			log := leading(n, 0)
			for i := 3*n + 3; i < len(log); i++ {
				log[i].Val = above >> (i % 4) & 1
			}
			if _, out, done := Level(0, 16, log); out != (api.LevelOut{Level: n}) || !done {
				t.Errorf("%d bits, then a 0: %v, %t", n, out, done)
			}
			both(t, "bits above", 0, 16, log)
		}
	}
}

// P11.2: each of the bits that are raised can be the one that reads as 0 after it was pulsed.
func TestWorn(t *testing.T) {
	for n := range 16 {
		for target := n + 1; target <= 16; target++ {
			for worn := n; worn < target; worn++ {
				log := leading(n, 1)
				l, _ := otherLevel(3, 16, log)
				at := len(l) + 6*(worn-n) + 3
				for k := range 3 {
					log[at+k].Val = 0
				}
				log[at+worn%3].Val = worn % 2
				for i := at + 3; i < len(log); i++ {
					log[i].Val = i % 2
				}
				if _, out, done := Raise(3, 16, target, log); out != (api.LevelOut{Level: worn, Err: api.ErrWorn}) || !done {
					t.Errorf("Raise from %d to %d with the worn bit %d: %v, %t", n, target, worn, out, done)
				}
				raised(t, "worn", 3, 16, target, log)
			}
		}
	}
}

// odd are values of results that count as 1.
var odd = []int{1, -1, 2, -2, 3, 4, 8, 255, 256, 1 << 16, 1 << 31, 1 << 32, 1 << 62, -1 << 31, -1 << 32, math.MaxInt, math.MaxInt - 1, math.MinInt, math.MinInt + 1}

// P11.1 and P11.2: every value but 0 counts as 1, in every place, alone or together with others, and the bytes of results do not matter.
func TestValues(t *testing.T) {
	for i, val := range odd {
		for n := range 5 {
			log := leading(n, 1)
			for k := range log {
				if log[k].Val == 1 {
					log[k].Val = val
				}
				log[k].Bytes = []string{"", "1", "\x01", strings.Repeat("\xff", 256)}[k*i%4]
			}
			if _, out, done := Level(2, 4, log); out != (api.LevelOut{Level: n}) || !done {
				t.Errorf("the value %d: %v, %t", val, out, done)
			}
			both(t, fmt.Sprint("the value ", val), 2, 4, log)
		}
		for k := range 12 {
			for _, other := range append([]int{0, -val}, odd...) {
				log := slices.Repeat([]api.Result{{Val: other, Bytes: "x"}}, longest)
				log[k].Val = val
				log[(k+1)%12].Val = 0
				both(t, fmt.Sprint("the value ", val, " beside ", other), 1, 3, log)
			}
		}
	}
}

// P11.1 and P11.2: the results of pulses do not matter, whatever they are.
func TestPulseResults(t *testing.T) {
	for bits := range 5 {
		for n := range bits + 1 {
			for target := range bits + 1 {
				log := leading(n, 1)
				l, out := otherRaise(0, bits, target, log)
				for i, val := range append([]int{0}, odd...) {
					changed := slices.Clone(log)
					for k, a := range l {
						if a.Kind == api.APulse {
							changed[k] = api.Result{Val: val, Bytes: strings.Repeat("x", i)}
						}
					}
					stepped(t, fmt.Sprint("pulses with the result ", val), raiser(0, bits, target), changed, l, out)
				}
			}
		}
	}
}

// P11.1 and P11.2: results beyond the end of a program are ignored, few and many, of any value.
func TestResultsBeyond(t *testing.T) {
	for bits := range 5 {
		for n := range bits + 1 {
			for target := range bits + 1 {
				log := leading(n, 1)
				l, out := otherRaise(1, bits, target, log)
				short, level := otherLevel(1, bits, log)
				for i, val := range append([]int{0}, odd...) {
					more := slices.Repeat([]api.Result{{Val: val, Bytes: strings.Repeat("x", i)}}, 7)
					stepped(t, "results beyond", raiser(1, bits, target), slices.Concat(log[:len(l)], more), l, out)
					stepped(t, "results beyond", leveler(1, bits), slices.Concat(log[:len(short)], more), short, api.LevelOut{Level: level})
				}
				many := append(log[:len(l):len(l)], make([]api.Result, 1<<16)...)
				if a, s, done := Raise(1, bits, target, many); a != (api.Access{}) || s != out || !done {
					t.Errorf("Raise with many results beyond: %v, %v, %t, want %v", a, s, done, out)
				}
			}
		}
	}
}

// P11.1 and P11.2: all logs of zeros and ones, for banks of up to two bits.
func TestAllLogs(t *testing.T) {
	const length = 15
	log := make([]api.Result, length)
	for n := range 1 << length {
		for i := range log {
			log[i].Val = n >> i & 1
		}
		for bits := range 3 {
			if n%(1<<(9*bits)) == n {
				both(t, fmt.Sprintf("%015b", n), n%4, bits, log)
			}
		}
	}
}

// P11.1 and P11.2: many logs have the accesses and outcomes that the other implementation finds.
func TestRandomLogs(t *testing.T) {
	r := rand.New(rand.NewSource(1))
	found := map[api.LevelOut]int{}
	for range 20000 {
		likely := []int{2, 5, 10, 30, 1000}[r.Intn(5)]
		log := make([]api.Result, longest)
		for i := range log {
			log[i].Val = odd[r.Intn(len(odd))]
			if r.Intn(likely) == 0 {
				log[i].Val = 0
			}
		}
		bits := r.Intn(17)
		bank, target := r.Intn(4), r.Intn(bits+1)
		l, n := otherLevel(bank, bits, log)
		stepped(t, "random: Level", leveler(bank, bits), log, l, api.LevelOut{Level: n})
		_, out := otherRaise(bank, bits, target, log)
		raised(t, "random", bank, bits, target, log)
		found[out]++
	}
	if len(found) < 30 {
		t.Errorf("the logs are not mixed: %v", found)
	}
}

// bank returns a device with one fuse bank, whose cells have the states that s says (0 intact, 1 weak, 2 blown, 3 stuck), and without flash memory; spaces in s only structure it.
func bank(s string) api.Hardware {
	var states []uint8
	for _, c := range strings.ReplaceAll(s, " ", "") {
		states = append(states, uint8(c-'0'))
	}
	return api.Hardware{Fuses: api.Fuses{Banks: [][]uint8{states}}}
}

// cellsOf returns the states of the cells of a device with one bank, as bank takes them.
func cellsOf(h api.Hardware) string {
	var b strings.Builder
	for cell, state := range h.Fuses.Banks[0] {
		if cell > 0 && cell%3 == 0 {
			b.WriteByte(' ')
		}
		b.WriteByte('0' + state)
	}
	return b.String()
}

// quiet and noisy are the noise of runs in which weak cells read as 0 and as 1; other numbers mix both.
const (
	quiet = 0
	noisy = -1
)

// run executes a program on a device, and returns the device, the outcome, whether the program ended, and the number of its accesses; power is lost in the access number cut, and weak cells read as 1 in the accesses that noise has set, repeatedly.
func run(t *testing.T, h api.Hardware, p program, cut, noise int) (api.Hardware, api.LevelOut, bool, int) {
	t.Helper()
	var log []api.Result
	for k := range longest {
		a, out, done := p(log)
		if done {
			return h, out, true, k
		}
		g, r, err := device.Do(h, a, api.Fault{Cut: k == cut, Noise: noise>>(k%60)&1 == 1})
		if err != api.OK {
			t.Fatalf("the access %v fails: %d", a, err)
		}
		if h = g; k == cut {
			return h, api.LevelOut{}, false, k
		}
		log = append(log, r)
	}
	t.Fatal("the program does not end")
	return h, api.LevelOut{}, false, 0
}

// complete returns the device after the first bits of its bank were pulsed.
func complete(h api.Hardware, bits int) api.Hardware {
	for cell := range 3 * bits {
		h.Fuses, _ = fuse.Pulse(h.Fuses, 0, cell, false)
	}
	return h
}

// outcome returns what a run without cuts ends with if the level reads as n, and the number of bits that it pulses.
func outcome(h api.Hardware, n, target int) (api.LevelOut, int) {
	cells := h.Fuses.Banks[0]
	for bit := n; bit < target; bit++ {
		stuck := 0
		for _, state := range cells[3*bit : 3*bit+3] {
			if state == api.CellStuck {
				stuck++
			}
		}
		if stuck > 1 {
			return api.LevelOut{Level: bit, Err: api.ErrWorn}, bit + 1
		}
	}
	return api.LevelOut{Level: max(n, target)}, max(n, target)
}

// after reports an error if a run without cuts that began on h has ended wrongly: with an outcome that does not follow from a level from low to high, or on a device of which other bits were pulsed than those that it says, or after too many accesses.
func after(t *testing.T, name string, h, end api.Hardware, low, high, target int, out api.LevelOut, count int) {
	t.Helper()
	bits := len(h.Fuses.Banks[0]) / 3
	for n := low; n <= high; n++ {
		want, pulsed := outcome(h, n, target)
		most := 3*min(n+1, bits) + 3*n + 6*max(0, pulsed-n)
		if out == want && device.Same(end, complete(h, pulsed)) && count == most && most <= 3*(n+1)+3*n+6*max(0, target-n) {
			return
		}
	}
	t.Errorf("%s of %s, whose level is from %d to %d, ends with %v and %s after %d accesses", name, cellsOf(h), low, high, out, cellsOf(end), count)
}

// kept reports an error if a level that was reported can fall: if the bank can read as less than least, or a complete run of a program reports less; and if a complete run does not do what it should.
func kept(t *testing.T, name string, h api.Hardware, least int) {
	t.Helper()
	bits := fuse.Width(h.Fuses, 0)
	low, high := fuse.Least(h.Fuses, 0), fuse.Most(h.Fuses, 0)
	if low < least {
		t.Errorf("%s: %s reads as %d, but the level was %d", name, cellsOf(h), low, least)
	}
	for target := -1; target <= bits; target++ {
		p, what := raiser(0, bits, target), fmt.Sprint(name, ", then Raise to ", target)
		if target < 0 {
			p, what = leveler(0, bits), fmt.Sprint(name, ", then Level")
		}
		end, out, _, count := run(t, h, p, -1, quiet)
		after(t, what, h, end, low, low, target, out, count)
		loud, second, _, count := run(t, h, p, -1, noisy)
		after(t, what, h, loud, high, high, target, second, count)
		for i, g := range []api.Hardware{end, loud} {
			if n := []int{out.Level, second.Level}[i]; n < least || fuse.Least(g.Fuses, 0) < n {
				t.Errorf("%s of %s: the level is %d, and was %d before; then %s", what, cellsOf(h), n, least, cellsOf(g))
			}
		}
	}
}

// interrupted executes Level (for the target -1) or Raise on a device, first without a cut and then with one in each access, and reports an error if the runs or what follows them do not keep P11.3.
func interrupted(t *testing.T, h api.Hardware, target, noise int) {
	t.Helper()
	bits := fuse.Width(h.Fuses, 0)
	p := raiser(0, bits, target)
	if target < 0 {
		p = leveler(0, bits)
	}
	low, high := fuse.Least(h.Fuses, 0), fuse.Most(h.Fuses, 0)
	name := fmt.Sprintf("%s to %d with the noise %b", cellsOf(h), target, noise)
	end, out, done, count := run(t, h, p, -1, noise)
	if !done || out.Err != api.OK && fuse.Sound(h.Fuses) {
		t.Errorf("%s: %v, %t", name, out, done)
	}
	after(t, name, h, end, low, high, target, out, count)
	kept(t, name, end, out.Level)
	for cut := range count {
		g, _, done, _ := run(t, h, p, cut, noise)
		above := 3 * max(high, target)
		if done || !slices.Equal(g.Fuses.Banks[0][above:], h.Fuses.Banks[0][above:]) {
			t.Errorf("%s: cut in access %d: %s, %t", name, cut, cellsOf(g), done)
		}
		kept(t, fmt.Sprint(name, ": cut in access ", cut), g, low)
	}
}

// P11.3: banks of one bit, with all states of its cells, all noise and cuts in each access.
func TestOneBit(t *testing.T) {
	for n := range 1 << 6 {
		h := bank(fmt.Sprintf("%d%d%d", n&3, n>>2&3, n>>4))
		for noise := range 1 << 6 {
			// The accesses 3 to 5 are pulses, which have no noise.
			noise = noise&7 | noise>>3<<6
			for target := -1; target <= 1; target++ {
				interrupted(t, h, target, noise)
			}
		}
	}
}

// P11.3: banks of two bits, with many states of their cells, some noise and cuts in each access.
func TestTwoBits(t *testing.T) {
	for n := range 1 << 8 {
		// Both bits have all states of their cells, and each pair of states of two cells occurs.
		s := fmt.Sprintf("%d%d%d %d%d%d", n&3, n>>2&3, n>>4&3, n>>6&3, (n+n>>2+n>>6)&3, (n>>4+n>>6)&3)
		for _, noise := range []int{quiet, noisy, 0b001100011010110010101, n * 4099} {
			for target := -1; target <= 2; target++ {
				interrupted(t, bank(s), target, noise)
			}
		}
	}
}

// banks are banks of more bits: intact ones, with stuck and weak cells, and with bits above one that reads as 0.
var banks = []string{
	"000 000 000 000",
	"222 222 222 222",
	"222 222 000 000",
	"222 022 202 220",
	"222 011 000 000",
	"221 112 111 011",
	"111 111 111 111",
	"121 000 222 000",
	"100 222 222 000",
	"322 232 223 322",
	"300 030 003 300",
	"311 131 113 311",
	"222 232 030 100",
	"222 330 222 000",
	"222 311 303 000",
	"022 000 000 333",
	"030 112 222 200 300 222",
	"222 222 121 003 222 111",
}

// P11.3: banks of more bits, with some noise and cuts in each access.
func TestCuts(t *testing.T) {
	for _, s := range banks {
		for _, noise := range []int{quiet, noisy, 0b001100011010110010101, 0b110110110110110111001110110100} {
			for target := -1; target <= len(s)/4+1; target++ {
				interrupted(t, bank(s), target, noise)
			}
		}
	}
}

// P11.3: one stuck cell, in any bit, and one in each bit, do not matter.
func TestOneStuck(t *testing.T) {
	for cell := range 48 {
		one := []byte(strings.Repeat("0", 48))
		one[cell] = '3'
		three := slices.Clone(one)
		for bit := range 16 {
			three[3*bit+cell%3] = '3'
		}
		for _, s := range []string{string(one), string(three)} {
			for _, target := range []int{1, cell / 3, cell/3 + 1, 16} {
				end, out, _, count := run(t, bank(s), raiser(0, 16, target), -1, quiet)
				again, level, _, _ := run(t, end, leveler(0, 16), -1, quiet)
				want := api.LevelOut{Level: target}
				if out != want || level != want || count != 3+6*target || !device.Same(again, end) || !device.Same(end, complete(bank(s), target)) {
					t.Errorf("%s to %d: %v after %d accesses, then %v", s, target, out, count, level)
				}
			}
		}
	}
}

// P11.2: with two or three stuck cells in a bit, Raise ends there with ErrWorn, again and again; it raises the bits below it, and does not pulse those above it.
func TestTwoStuck(t *testing.T) {
	for bit := range 16 {
		for _, stuck := range []string{"330", "303", "033", "332", "233", "331", "313", "333"} {
			h := bank(strings.Repeat("000", bit) + stuck + strings.Repeat("000", 15-bit))
			for target := range 17 {
				want := api.LevelOut{Level: target}
				if target > bit {
					want = api.LevelOut{Level: bit, Err: api.ErrWorn}
				}
				end := h
				for range 2 {
					g, out, _, _ := run(t, end, raiser(0, 16, target), -1, noisy)
					if out != want || !device.Same(g, complete(h, min(target, bit+1))) {
						t.Errorf("%s to %d: %v, then %s", cellsOf(h), target, out, cellsOf(g))
					}
					end = g
				}
				if _, out, _, _ := run(t, end, leveler(0, 16), -1, noisy); out != (api.LevelOut{Level: want.Level}) {
					t.Errorf("%s to %d, then Level = %v", cellsOf(h), target, out)
				}
			}
		}
	}
}

// P11.1 and P11.3: weak cells of a bit that reads as 1 are completed, before the level is reported; those of a bit that reads as 0 are left alone.
func TestWeak(t *testing.T) {
	for _, x := range []struct {
		s            string
		quiet, noisy int
		after        string // after a noisy run
	}{
		{"110", 0, 1, "222"},
		{"101", 0, 1, "222"},
		{"011", 0, 1, "222"},
		{"210", 0, 1, "222"},
		{"012", 0, 1, "222"},
		{"111", 0, 1, "222"},
		{"213", 0, 1, "223"},
		{"311", 0, 1, "322"},
		{"221", 1, 1, "222"},
		{"100", 0, 0, "100"},
		{"310", 0, 0, "310"},
		{"331", 0, 0, "331"},
		{"222 110 000", 1, 2, "222 222 000"},
		{"122 110 010", 1, 2, "222 222 010"},
		{"011 222 111", 0, 3, "222 222 222"},
		{"220 000 111", 1, 1, "222 000 111"},
	} {
		h, bits := bank(x.s), len(x.s)/4+1
		calm, first, _, _ := run(t, h, leveler(0, bits), -1, quiet)
		if first != (api.LevelOut{Level: x.quiet}) || !device.Same(calm, complete(h, x.quiet)) {
			t.Errorf("%s without noise: %v, then %s", x.s, first, cellsOf(calm))
		}
		loud, second, _, _ := run(t, h, leveler(0, bits), -1, noisy)
		if second != (api.LevelOut{Level: x.noisy}) || cellsOf(loud) != x.after {
			t.Errorf("%s with noise: %v, then %s", x.s, second, cellsOf(loud))
		}
		kept(t, x.s, calm, x.quiet)
		kept(t, x.s, loud, x.noisy)
	}
}

// randomBank returns a device with a bank of at most 16 bits; it is sound.
func randomBank(r *rand.Rand) api.Hardware {
	var s strings.Builder
	for range r.Intn(17) {
		bit := []byte{"0012"[r.Intn(4)], "0012"[r.Intn(4)], "0012"[r.Intn(4)]}
		if r.Intn(3) == 0 {
			bit[r.Intn(3)] = '3'
		}
		s.Write(bit)
	}
	return bank(s.String())
}

// P11.3: whatever runs of both programs follow one another, with whatever noise and cuts, the levels that they report do not fall, and with sound cells there is no ErrWorn.
func TestHistories(t *testing.T) {
	r := rand.New(rand.NewSource(2))
	for range 3000 {
		h := randomBank(r)
		bits, most := fuse.Width(h.Fuses, 0), 0
		for range 30 {
			low, high := fuse.Least(h.Fuses, 0), fuse.Most(h.Fuses, 0)
			p, target := leveler(0, bits), -1
			if r.Intn(3) > 0 {
				target = min(bits, max(0, most-1+r.Intn(4)))
				p = raiser(0, bits, target)
			}
			end, out, done, count := run(t, h, p, r.Intn(12+6*most), r.Intn(1<<62)&-r.Intn(2))
			if done {
				after(t, "history", h, end, low, high, target, out, count)
				if out.Level < most || out.Err != api.OK {
					t.Fatalf("%s to %d: %v, but the level was %d", cellsOf(h), target, out, most)
				}
				most = out.Level
			}
			h = end
		}
	}
}

// P11.1 and P11.2: on a device with all banks, only the bank of the call is read and pulsed, and nothing is written to its flash memory.
func TestBanks(t *testing.T) {
	h, err := device.New(api.Digest{1}, 16, 16, 16, 16)
	if err != api.OK {
		t.Fatal(err)
	}
	for bank := range 4 {
		for _, target := range []int{0, 1, 5, 16} {
			end, out, _, _ := run(t, h, raiser(bank, 16, target), -1, quiet)
			if out != (api.LevelOut{Level: target}) {
				t.Errorf("bank %d to %d: %v", bank, target, out)
			}
			for other := range 4 {
				want := 0
				if other == bank {
					want = target
				}
				if _, out, _, _ := run(t, end, leveler(other, 16), -1, quiet); out != (api.LevelOut{Level: want}) || fuse.Least(end.Fuses, other) != want || fuse.Most(end.Fuses, other) != want {
					t.Errorf("bank %d to %d: then the level of the bank %d is %v", bank, target, other, out)
				}
			}
			end.Fuses = h.Fuses
			if !device.Same(end, h) {
				t.Errorf("bank %d to %d: something else than the fuses has changed", bank, target)
			}
		}
	}
}

// P11.1 and P11.2: a program for fewer bits than the bank has leaves the bits above alone, and does not read them.
func TestFewerBits(t *testing.T) {
	for _, s := range banks {
		h := bank(s)
		for bits := range fuse.Width(h.Fuses, 0) {
			for target := range bits + 1 {
				end, out, _, _ := run(t, h, raiser(0, bits, target), -1, noisy)
				part := bank(cellsOf(h)[:4*bits])
				want, pulsed := outcome(part, fuse.Most(part.Fuses, 0), target)
				if out != want || !device.Same(end, complete(h, pulsed)) {
					t.Errorf("%s, %d bits to %d: %v, then %s", s, bits, target, out, cellsOf(end))
				}
			}
		}
	}
}

// Section Memory of DOC.md: a log is not changed, nothing is appended to it, and what it is changed to afterwards does not change results.
func TestMemory(t *testing.T) {
	whole := append(leading(2, 1), slices.Repeat([]api.Result{{Val: 5, Bytes: "behind"}}, 10)...)
	before := slices.Clone(whole)
	for target := -1; target <= 4; target++ {
		p := raiser(1, 4, target)
		if target < 0 {
			p = leveler(1, 4)
		}
		for k := range len(whole) + 1 {
			log := slices.Clone(whole)
			a, out, done := p(log[:k])
			if !slices.Equal(log, before) {
				t.Fatalf("the log has changed after %d results", k)
			}
			again, same, ended := p(log[:k:k])
			wantAccess, want := a, out
			clear(log)
			a.Cell, a.Bytes, out.Level = 99, "changed", 99
			if third, last, _ := p(before[:k]); again != wantAccess || same != want || done != ended || third != wantAccess || last != want {
				t.Errorf("after %d results: %v, %v, then %v, %v and %v, %v", k, wantAccess, want, again, same, third, last)
			}
		}
	}
	if !slices.Equal(whole, before) {
		t.Error("the log has changed")
	}
}

// summary returns what both programs return for a log, as a text.
func summary(log []api.Result) string {
	var s strings.Builder
	for k := range len(log) + 1 {
		for bank := range 4 {
			a, out, done := Level(bank, 3+bank, log[:k])
			b, raised, ended := Raise(bank, 3+bank, k%4, log[:k])
			fmt.Fprintln(&s, a, out, done, b, raised, ended)
		}
	}
	return s.String()
}

// Section State of DOC.md: what a call returns does not depend on other calls, be they before it or at the same time, with the same log.
func TestCallsIndependent(t *testing.T) {
	logs := [][]api.Result{leading(2, 1), leading(6, 0), make([]api.Result, 20), results("111 011 101 110 000 111")}
	var want []string
	for _, log := range logs {
		want = append(want, summary(log))
	}
	var wait sync.WaitGroup
	for worker := range 8 {
		wait.Go(func() {
			for k := range 40 {
				i := (k*3 + worker) % len(logs)
				if summary(logs[i]) != want[i] {
					t.Errorf("worker %d: the results for the log %d have changed", worker, i)
				}
			}
		})
	}
	wait.Wait()
}
