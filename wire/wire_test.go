package wire

import (
	"bytes"
	"math"
	"math/big"
	"math/rand"
	"runtime"
	"slices"
	"testing"

	"bootchain/api"
)

// integers are values with their encodings: the ends of every length, and the least and the greatest integer.
var integers = []struct {
	n int
	b []byte
}{
	{0, []byte{0}},
	{-1, []byte{1}},
	{1, []byte{2}},
	{-2, []byte{3}},
	{63, []byte{126}},
	{-64, []byte{127}},
	{64, []byte{128, 1}},
	{-65, []byte{129, 1}},
	{300, []byte{216, 4}},
	{8191, []byte{254, 127}},
	{-8192, []byte{255, 127}},
	{8192, []byte{128, 128, 1}},
	{-8193, []byte{129, 128, 1}},
	{1<<20 - 1, []byte{254, 255, 127}},
	{-1 << 20, []byte{255, 255, 127}},
	{1 << 20, []byte{128, 128, 128, 1}},
	{-1<<20 - 1, []byte{129, 128, 128, 1}},
	{1<<62 - 1, []byte{254, 255, 255, 255, 255, 255, 255, 255, 127}},
	{-1 << 62, []byte{255, 255, 255, 255, 255, 255, 255, 255, 127}},
	{1 << 62, []byte{128, 128, 128, 128, 128, 128, 128, 128, 128, 1}},
	{-1<<62 - 1, []byte{129, 128, 128, 128, 128, 128, 128, 128, 128, 1}},
	{math.MaxInt, []byte{254, 255, 255, 255, 255, 255, 255, 255, 255, 1}},
	{math.MinInt, []byte{255, 255, 255, 255, 255, 255, 255, 255, 255, 1}},
}

var (
	digestA = api.Digest{1, 2, 3, 15: 9}
	digestB = api.Digest{128, 255, 15: 128}
)

// tails are what may follow an encoding; none of them may change how it is decoded.
var tails = [][]byte{nil, {0}, {1}, {127}, {128}, {255, 255, 255}, bytes.Repeat([]byte{255}, 40)}

func join(parts ...[]byte) []byte { return slices.Concat(parts...) }

// sampleInts are the boundary values and their neighbors at every power of two, and random ones of every size.
func sampleInts() []int {
	var l []int
	for k := range 64 {
		p := 1 << k
		l = append(l, p-1, p, p+1, -p-1, -p, -p+1)
	}
	r := rand.New(rand.NewSource(1))
	for range 2000 {
		l = append(l, int(r.Uint64())>>r.Intn(64))
	}
	return l
}

// P1.1: the encodings of given integers.
func TestIntEncodings(t *testing.T) {
	for _, x := range integers {
		if b := Int(x.n); !bytes.Equal(b, x.b) {
			t.Errorf("Int(%d) = %v, want %v", x.n, b, x.b)
		}
	}
}

// P1.1: every integer has the groups of its zigzag number, which unlimited arithmetic computes here.
func TestIntFollowsDefinition(t *testing.T) {
	for _, n := range sampleInts() {
		u := big.NewInt(int64(n))
		u.Lsh(u, 1)
		if n < 0 {
			u.Neg(u).Sub(u, big.NewInt(1))
		}
		var want []byte
		for {
			group := byte(new(big.Int).And(u, big.NewInt(127)).Int64())
			u.Rsh(u, 7)
			if u.Sign() == 0 {
				want = append(want, group)
				break
			}
			want = append(want, group|128)
		}
		if b := Int(n); !bytes.Equal(b, want) {
			t.Fatalf("Int(%d) = %v, want %v", n, b, want)
		}
	}
}

// P1.2: integers are decoded, whatever follows them.
func TestGetIntDecodes(t *testing.T) {
	for _, x := range integers {
		for _, tail := range tails {
			n, used, err := GetInt(join(x.b, tail))
			if n != x.n || used != len(x.b) || err != api.OK {
				t.Errorf("GetInt(%v, %v) = %d, %d, %d", x.b, tail, n, used, err)
			}
		}
	}
}

// P1.2: fewer than ten bytes that all announce another one are truncated.
func TestGetIntTruncated(t *testing.T) {
	for _, c := range []byte{128, 129, 255} {
		for k := range 10 {
			n, used, err := GetInt(bytes.Repeat([]byte{c}, k))
			if n != 0 || used != 0 || err != api.ErrTruncated {
				t.Errorf("GetInt of %d bytes %d = %d, %d, %d", k, c, n, used, err)
			}
		}
	}
	if _, _, err := GetInt(nil); err != api.ErrTruncated {
		t.Error("GetInt(nil):", err)
	}
}

// P1.2: what is no encoding of an integer is refused, whatever follows it.
func TestGetIntRefuses(t *testing.T) {
	nine := bytes.Repeat([]byte{255}, 9)
	low := bytes.Repeat([]byte{128}, 9)
	for _, b := range [][]byte{
		{128, 0},
		{255, 0},
		{129, 128, 0},
		{255, 128, 0},
		join(low[:8], []byte{0}),
		join(nine, []byte{0}),
		join(low, []byte{0}),
		join(nine, []byte{2}),
		join(low, []byte{2}),
		join(nine, []byte{3}),
		join(low, []byte{64}),
		join(nine, []byte{127}),
		join(nine, []byte{128}),
		join(nine, []byte{129}),
		join(low, []byte{128}),
		join(nine, []byte{255}),
		join(low, []byte{129, 1}),
	} {
		for _, tail := range tails {
			n, used, err := GetInt(join(b, tail))
			if n != 0 || used != 0 || err != api.ErrEncoding {
				t.Errorf("GetInt(%v, %v) = %d, %d, %d", b, tail, n, used, err)
			}
		}
	}
}

// definedInt decodes as P1.2 says it, word by word, in unlimited arithmetic.
func definedInt(b []byte) (int, int, api.Errno) {
	ten := b[:min(len(b), 10)]
	last := slices.IndexFunc(ten, func(c byte) bool { return c < 128 })
	if last < 0 && len(b) < 10 {
		return 0, 0, api.ErrTruncated
	}
	if last < 0 || b[last] == 0 && last > 0 {
		return 0, 0, api.ErrEncoding
	}
	u := new(big.Int)
	for i := last; i >= 0; i-- {
		u.Lsh(u, 7).Add(u, big.NewInt(int64(b[i]&127)))
	}
	if u.BitLen() > 64 {
		return 0, 0, api.ErrEncoding
	}
	odd := u.Bit(0) == 1
	if odd {
		u.Add(u, big.NewInt(1)).Neg(u)
	}
	return int(u.Quo(u, big.NewInt(2)).Int64()), last + 1, api.OK
}

// eachText calls f with all sequences of at most most bytes of an alphabet.
func eachText(alphabet []byte, most int, f func(b []byte)) {
	var grow func(b []byte)
	grow = func(b []byte) {
		f(b)
		if len(b) == most {
			return
		}
		for _, c := range alphabet {
			grow(append(b[:len(b):len(b)], c))
		}
	}
	grow(nil)
}

// P1.2 and P1.6: all short sequences, and all ends of long ones, are decoded as the definition says.
func TestGetIntFollowsDefinition(t *testing.T) {
	try := func(b []byte) {
		n, used, err := GetInt(b)
		m, size, want := definedInt(b)
		if n != m || used != size || err != want {
			t.Fatalf("GetInt(%v) = %d, %d, %d, want %d, %d, %d", b, n, used, err, m, size, want)
		}
		if err == api.OK && !bytes.Equal(Int(n), b[:used]) {
			t.Fatalf("Int(%d) is not %v", n, b[:used])
		}
	}
	var all []byte
	for c := range 256 {
		all = append(all, byte(c))
	}
	eachText(all, 2, try)
	alphabet := []byte{0, 1, 2, 127, 128, 129, 255}
	eachText(alphabet, 5, try)
	for k := 6; k <= 9; k++ {
		for _, c := range []byte{128, 255} {
			head := bytes.Repeat([]byte{c}, k)
			eachText(alphabet, 4, func(b []byte) { try(join(head, b)) })
		}
	}
	for c := range 256 {
		try(join(bytes.Repeat([]byte{255}, 9), []byte{byte(c)}))
	}
}

// shape is what a decoder of a string or of a list says, without the value.
type shape struct {
	used int
	err  api.Errno
}

// decoders runs the decoders of P1.3 to P1.5 and checks that they return the zero value together with an error.
func decoders(t *testing.T, b []byte) [3]shape {
	t.Helper()
	s, sUsed, sErr := GetBytes(b)
	l, lUsed, lErr := GetInts(b)
	d, dUsed, dErr := GetDigests(b)
	if sErr != api.OK && s != "" || lErr != api.OK && len(l) != 0 || dErr != api.OK && len(d) != 0 {
		t.Errorf("%v: a value together with an error: %q %d %v %d %v %d", b, s, sErr, l, lErr, d, dErr)
	}
	return [3]shape{{sUsed, sErr}, {lUsed, lErr}, {dUsed, dErr}}
}

// P1.3 to P1.5: the error of the length comes first, then a negative length, then one that the input cannot hold.
func TestLengths(t *testing.T) {
	nine := bytes.Repeat([]byte{255}, 9)
	for _, b := range [][]byte{nil, {128}, {255, 255}, nine} {
		for i, x := range decoders(t, b) {
			if x != (shape{0, api.ErrTruncated}) {
				t.Errorf("P1.%d: a truncated length %v: %v", i+3, b, x)
			}
		}
	}
	for _, length := range [][]byte{
		{128, 0}, {255, 128, 0}, join(nine, []byte{0}), join(nine, []byte{2}), join(nine, []byte{255}),
		{1}, {3}, {127}, {129, 1}, Int(-1000), Int(math.MinInt), Int(math.MinInt + 1),
	} {
		for _, tail := range tails {
			for i, x := range decoders(t, join(length, tail)) {
				if x != (shape{0, api.ErrEncoding}) {
					t.Errorf("P1.%d: the length %v before %v: %v", i+3, length, tail, x)
				}
			}
		}
	}
}

// P1.3 to P1.5: a length far greater than the input, up to those whose product with the size of an element overflows.
func TestGreatLengths(t *testing.T) {
	for _, n := range []int{41, 1000, 1 << 31, 1 << 58, 1 << 59, 1<<59 + 1, 1 << 60, 1<<60 + 1, 1 << 62, math.MaxInt - 10, math.MaxInt - 1, math.MaxInt} {
		for _, tail := range tails {
			for i, x := range decoders(t, join(Int(n), tail)) {
				if x != (shape{0, api.ErrTruncated}) {
					t.Errorf("P1.%d: the length %d before %d bytes: %v", i+3, n, len(tail), x)
				}
			}
		}
	}
}

// P1.3: strings are encoded and decoded.
func TestBytes(t *testing.T) {
	long := string(bytes.Repeat([]byte("x\x00\xff"), 100))
	for _, x := range []struct {
		s string
		b []byte
	}{
		{"", []byte{0}},
		{"ab", []byte{4, 97, 98}},
		{"\x00", []byte{2, 0}},
		{"\xff\x80é", []byte{8, 255, 128, 195, 169}},
		{long[:63], join([]byte{126}, []byte(long[:63]))},
		{long[:64], join([]byte{128, 1}, []byte(long[:64]))},
		{long, join([]byte{216, 4}, []byte(long))},
	} {
		if b := Bytes(x.s); !bytes.Equal(b, x.b) {
			t.Errorf("Bytes(%q) = %v, want %v", x.s, b, x.b)
		}
		for _, tail := range tails {
			s, used, err := GetBytes(join(x.b, tail))
			if s != x.s || used != len(x.b) || err != api.OK {
				t.Errorf("GetBytes(%v, %v) = %q, %d, %d", x.b, tail, s, used, err)
			}
		}
	}
}

// P1.3: a string that is one byte short is truncated.
func TestGetBytesTruncated(t *testing.T) {
	for _, b := range [][]byte{{2}, {4, 97}, {6, 97, 98}, join([]byte{128, 1}, make([]byte, 63))} {
		if s, used, err := GetBytes(b); s != "" || used != 0 || err != api.ErrTruncated {
			t.Errorf("GetBytes(%v) = %q, %d, %d", b, s, used, err)
		}
	}
}

// P1.4: lists of integers are encoded and decoded.
func TestInts(t *testing.T) {
	var all []int
	whole := []byte{byte(2 * len(integers))}
	for _, x := range integers {
		all = append(all, x.n)
		whole = append(whole, x.b...)
	}
	for _, x := range []struct {
		l []int
		b []byte
	}{
		{nil, []byte{0}},
		{[]int{}, []byte{0}},
		{[]int{0}, []byte{2, 0}},
		{[]int{1, -1}, []byte{4, 2, 1}},
		{[]int{1, -1, 64}, []byte{6, 2, 1, 128, 1}},
		{all, whole},
		{make([]int, 64), join([]byte{128, 1}, make([]byte, 64))},
	} {
		if b := Ints(x.l); !bytes.Equal(b, x.b) {
			t.Errorf("Ints(%v) = %v, want %v", x.l, b, x.b)
		}
		for _, tail := range tails {
			l, used, err := GetInts(join(x.b, tail))
			if !slices.Equal(l, x.l) || used != len(x.b) || err != api.OK {
				t.Errorf("GetInts(%v, %v) = %v, %d, %d", x.b, tail, l, used, err)
			}
		}
	}
}

// P1.4: too few bytes come before the errors of the elements, and of these the first one is returned.
func TestGetIntsErrors(t *testing.T) {
	nine := bytes.Repeat([]byte{255}, 9)
	for _, x := range []struct {
		b   []byte
		err api.Errno
	}{
		{[]byte{2}, api.ErrTruncated},
		{[]byte{4, 1}, api.ErrTruncated},
		{[]byte{6, 128, 0}, api.ErrTruncated},
		{join([]byte{22}, nine, []byte{255}), api.ErrTruncated},
		{[]byte{4, 2, 128}, api.ErrTruncated},
		{[]byte{4, 128, 1}, api.ErrTruncated},
		{join([]byte{2}, nine), api.ErrTruncated},
		{[]byte{4, 128, 0}, api.ErrEncoding},
		{[]byte{6, 128, 0, 128}, api.ErrEncoding},
		{[]byte{6, 1, 128, 0, 128}, api.ErrEncoding},
		{join([]byte{4, 7}, nine, []byte{255}), api.ErrEncoding},
		{join([]byte{4, 7}, nine, []byte{2}), api.ErrEncoding},
	} {
		if l, used, err := GetInts(x.b); len(l) != 0 || used != 0 || err != x.err {
			t.Errorf("GetInts(%v) = %v, %d, %d, want %d", x.b, l, used, err, x.err)
		}
	}
}

// P1.5: lists of digests are encoded and decoded.
func TestDigests(t *testing.T) {
	many := make([]api.Digest, 70)
	var body []byte
	for i := range many {
		many[i][i%api.DigestSize] = byte(i + 1)
		body = append(body, many[i][:]...)
	}
	for _, x := range []struct {
		l []api.Digest
		b []byte
	}{
		{nil, []byte{0}},
		{[]api.Digest{}, []byte{0}},
		{[]api.Digest{{}}, join([]byte{2}, make([]byte, 16))},
		{[]api.Digest{digestA, digestB}, join([]byte{4}, digestA[:], digestB[:])},
		{many[:63], join([]byte{126}, body[:63*16])},
		{many[:64], join([]byte{128, 1}, body[:64*16])},
		{many, join([]byte{140, 1}, body)},
	} {
		if b := Digests(x.l); !bytes.Equal(b, x.b) {
			t.Errorf("Digests(%v) = %v, want %v", x.l, b, x.b)
		}
		for _, tail := range tails {
			l, used, err := GetDigests(join(x.b, tail))
			if !slices.Equal(l, x.l) || used != len(x.b) || err != api.OK {
				t.Errorf("GetDigests(%v, %v) = %v, %d, %d", x.b, tail, l, used, err)
			}
		}
	}
}

// P1.5: fewer than 16 bytes per element are truncated.
func TestGetDigestsTruncated(t *testing.T) {
	for n := 1; n <= 3; n++ {
		for _, k := range []int{0, 1, 15, 16*n - 16, 16*n - 2, 16*n - 1} {
			l, used, err := GetDigests(join(Int(n), make([]byte, k)))
			if len(l) != 0 || used != 0 || err != api.ErrTruncated {
				t.Errorf("GetDigests of %d digests in %d bytes = %v, %d, %d", n, k, l, used, err)
			}
		}
	}
}

// encodings are encodings of all four kinds, with the decoder of each.
func encodings() (l []struct {
	b   []byte
	get func(b []byte) (again []byte, used int, err api.Errno)
}) {
	add := func(b []byte, get func(b []byte) ([]byte, int, api.Errno)) {
		l = append(l, struct {
			b   []byte
			get func(b []byte) ([]byte, int, api.Errno)
		}{b, get})
	}
	for _, x := range integers {
		add(Int(x.n), againInt)
	}
	for _, s := range []string{"", "a", "\x80\x80", string(make([]byte, 70))} {
		add(Bytes(s), againBytes)
	}
	for _, m := range [][]int{nil, {0}, {64, -65, math.MaxInt, math.MinInt}, make([]int, 70)} {
		add(Ints(m), againInts)
	}
	for _, m := range [][]api.Digest{nil, {digestA}, {digestB, {}, digestA}, make([]api.Digest, 70)} {
		add(Digests(m), againDigests)
	}
	return l
}

func againInt(b []byte) ([]byte, int, api.Errno) {
	n, used, err := GetInt(b)
	return Int(n), used, err
}

func againBytes(b []byte) ([]byte, int, api.Errno) {
	s, used, err := GetBytes(b)
	return Bytes(s), used, err
}

func againInts(b []byte) ([]byte, int, api.Errno) {
	l, used, err := GetInts(b)
	return Ints(l), used, err
}

func againDigests(b []byte) ([]byte, int, api.Errno) {
	l, used, err := GetDigests(b)
	return Digests(l), used, err
}

// P1.6: an encoding is decoded to its value and length whatever follows it, and each proper prefix is truncated.
func TestRoundTripsAndPrefixes(t *testing.T) {
	for _, x := range encodings() {
		for _, tail := range tails {
			again, used, err := x.get(join(x.b, tail))
			if !bytes.Equal(again, x.b) || used != len(x.b) || err != api.OK {
				t.Errorf("%v before %v: %v, %d, %d", x.b, tail, again, used, err)
			}
		}
		for k := range x.b {
			if _, used, err := x.get(x.b[:k]); used != 0 || err != api.ErrTruncated {
				t.Errorf("the first %d bytes of %v: %d, %d", k, x.b, used, err)
			}
		}
	}
	for _, n := range sampleInts() {
		if m, used, err := GetInt(Int(n)); m != n || used != len(Int(n)) || err != api.OK {
			t.Errorf("GetInt(Int(%d)) = %d, %d, %d", n, m, used, err)
		}
	}
}

// P1.6 and P1: what any bytes decode to has the consumed bytes as its encoding.
func TestDecodedIsCanonical(t *testing.T) {
	gets := []func(b []byte) ([]byte, int, api.Errno){againInt, againBytes, againInts, againDigests}
	try := func(b []byte) {
		before := slices.Clone(b)
		for i, get := range gets {
			again, used, err := get(b)
			if err == api.OK && (used > len(b) || !bytes.Equal(again, b[:used])) {
				t.Fatalf("decoder %d of %v: consumed %d, encodes as %v", i, b, used, again)
			}
			if err != api.OK && (used != 0 || !bytes.Equal(again, []byte{0}) || err != api.ErrTruncated && err != api.ErrEncoding) {
				t.Fatalf("decoder %d of %v: %v, %d, %d", i, b, again, used, err)
			}
		}
		if !bytes.Equal(b, before) {
			t.Fatalf("%v was changed to %v", before, b)
		}
	}
	eachText([]byte{0, 1, 2, 4, 6, 127, 128, 129, 255}, 5, try)
	r := rand.New(rand.NewSource(2))
	for range 20000 {
		b := make([]byte, r.Intn(60))
		for i := range b {
			b[i] = byte(r.Intn(256)) >> (r.Intn(2) * r.Intn(8))
		}
		try(b)
	}
}

// The section Memory of DOC.md: a result shares no memory with an argument.
func TestResultsAreNew(t *testing.T) {
	spoil := func(b []byte) {
		for i := range b {
			b[i] = 170
		}
	}
	b := Bytes("abc")
	s, _, _ := GetBytes(b)
	spoil(b)
	if s != "abc" {
		t.Error("GetBytes shares memory:", s)
	}
	b = Digests([]api.Digest{digestA, digestB})
	l, _, _ := GetDigests(b)
	spoil(b)
	if !slices.Equal(l, []api.Digest{digestA, digestB}) {
		t.Error("GetDigests shares memory:", l)
	}
	first := Int(1 << 20)
	spoil(Int(1 << 20))
	if !bytes.Equal(first, []byte{128, 128, 128, 1}) {
		t.Error("two results of Int share memory:", first)
	}
}

// allocated returns how many bytes f allocates.
func allocated(f func()) uint64 {
	var before, after runtime.MemStats
	runtime.ReadMemStats(&before)
	f()
	runtime.ReadMemStats(&after)
	return after.TotalAlloc - before.TotalAlloc
}

// Decoding does not allocate more than is proportional to the input, whatever length the input announces.
func TestMemory(t *testing.T) {
	size := 1 << 16
	body := make([]byte, size)
	spoilt := slices.Clone(body)
	spoilt[size-2], spoilt[size-1] = 128, 0
	for _, n := range []int{math.MaxInt, 1 << 40, 1 << 28, size + 1, size, size / 16, 1} {
		for _, b := range [][]byte{join(Int(n), body), join(Int(n), spoilt), join(Int(n), bytes.Repeat([]byte{128}, size))} {
			// A word per byte is needed for integers; the rest is left for the tests' own runtime.
			most := uint64(4*8*len(b) + 1<<16)
			if got := allocated(func() { decoders(t, b) }); got > most {
				t.Errorf("the length %d before %d bytes: %d bytes allocated", n, size, got)
			}
		}
	}
}
