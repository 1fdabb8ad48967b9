package wots

import (
	"crypto/hmac"
	"crypto/sha256"
	"encoding/binary"
	"encoding/hex"
	"fmt"
	"math"
	"math/big"
	"math/rand"
	"slices"
	"strconv"
	"strings"
	"testing"

	"bootchain/api"
)

// repeated returns the digest whose bytes are all b.
func repeated(b byte) api.Digest {
	var d api.Digest
	for i := range d {
		d[i] = b
	}
	return d
}

// counting returns the digest whose bytes are b, b+1 and so on.
func counting(b byte) api.Digest {
	var d api.Digest
	for i := range d {
		d[i] = b + byte(i)
	}
	return d
}

// randomDigests returns n digests that depend on seed only.
func randomDigests(n int, seed int64) []api.Digest {
	r := rand.New(rand.NewSource(seed))
	l := make([]api.Digest, n)
	for i := range l {
		r.Read(l[i][:])
	}
	return l
}

// seeds and indices are those of the key pairs that most tests use: encodings of one to ten bytes, and negative numbers.
var seeds = []api.Digest{{}, counting(0), repeated(255), {15: 1}}

var indices = []int{0, 1, 2, 5, 63, 64, -1, -2, -64, -65, 1 << 31, 1 << 32, -1 << 32, math.MaxInt - 1, math.MaxInt, math.MinInt, math.MinInt + 1}

// withSum returns a message whose checksum is sum: its digits are 3 but for some at its beginning.
func withSum(sum int) api.Digest {
	msg := repeated(255)
	for i := 0; sum > 0; i++ {
		d := min(sum, 3)
		msg[i/4] -= byte(d) << (6 - 2*(i%4))
		sum -= d
	}
	return msg
}

// messages are messages of many kinds, among them all checksums that have but one digit other than 0.
func messages() []api.Digest {
	l := []api.Digest{
		{}, repeated(255), repeated(0x1b), repeated(0xe4), repeated(0x55), repeated(0xaa), repeated(128), repeated(1),
		{0: 192}, {15: 3}, counting(0), counting(16), counting(240),
	}
	for _, sum := range []int{1, 2, 3, 4, 8, 12, 16, 32, 48, 64, 128, 192, 191, 63, 27, 108, 177} {
		l = append(l, withSum(sum))
	}
	return append(l, randomDigests(5, 1)...)
}

// encoded returns what package wire would return for an integer.
func encoded(n int) []byte { return binary.AppendVarint(nil, int64(n)) }

// flat returns the bytes that are hashed for a list of parts.
func flat(parts ...[]byte) []byte {
	var out []byte
	for _, p := range parts {
		out = append(binary.AppendVarint(out, int64(len(p))), p...)
	}
	return out
}

// hash is sha.Digest with another implementation of SHA-256.
func hash(tag byte, parts ...[]byte) api.Digest {
	h := sha256.Sum256(append([]byte{tag}, flat(parts...)...))
	return api.Digest(h[:16])
}

// otherStart returns the start of chain k of a key pair.
func otherStart(seed api.Digest, index, k int) api.Digest {
	h := hmac.New(sha256.New, seed[:])
	h.Write(flat([]byte("wots"), encoded(index), encoded(k)))
	return api.Digest(h.Sum(nil)[:16])
}

// advanced returns what n steps of chain k make of v.
func advanced(k int, v api.Digest, n int) api.Digest {
	for ; n > 0; n-- {
		v = hash(3, encoded(k), v[:])
	}
	return v
}

// otherValue returns the value of chain k of a key pair at a height.
func otherValue(seed api.Digest, index, k, height int) api.Digest {
	return advanced(k, otherStart(seed, index, k), height)
}

// otherKey returns the public key for the values at the ends of the chains.
func otherKey(ends []api.Digest) api.Digest {
	var p []byte
	for _, v := range ends {
		p = append(p, v[:]...)
	}
	return hash(4, p)
}

// otherPublic returns the public key of a key pair.
func otherPublic(seed api.Digest, index int) api.Digest {
	ends := make([]api.Digest, 68)
	for k := range ends {
		ends[k] = otherValue(seed, index, k, 3)
	}
	return otherKey(ends)
}

// base4 spells a number in base 4, with zeros in front up to a number of digits.
func base4(n *big.Int, size int) string {
	s := n.Text(4)
	return strings.Repeat("0", size-len(s)) + s
}

// otherDigits returns the digits of a message, which is taken as one great number.
func otherDigits(msg api.Digest) []int {
	s := base4(new(big.Int).SetBytes(msg[:]), 64)
	sum := 3 * 64
	for _, c := range s {
		sum -= int(c - '0')
	}
	var l []int
	for _, c := range s + base4(big.NewInt(int64(sum)), 4) {
		l = append(l, int(c-'0'))
	}
	return l
}

// otherSign returns the signature of a message.
func otherSign(seed api.Digest, index int, msg api.Digest) []api.Digest {
	var chain []api.Digest
	for k, d := range otherDigits(msg) {
		chain = append(chain, otherValue(seed, index, k, d))
	}
	return chain
}

// otherRecover returns the public key for which a list of 68 digests is a signature.
func otherRecover(msg api.Digest, chain []api.Digest) api.Digest {
	var ends []api.Digest
	for k, d := range otherDigits(msg) {
		ends = append(ends, advanced(k, chain[k], 3-d))
	}
	return otherKey(ends)
}

// spelled returns digits as text.
func spelled(l []int) string {
	s := ""
	for _, d := range l {
		s += strconv.Itoa(d)
	}
	return s
}

func TestChains(t *testing.T) {
	if Chains != 68 {
		t.Error("Chains is", Chains)
	}
}

// P4.1: the examples, and messages whose digits are written out here.
func TestDigitsVectors(t *testing.T) {
	for _, x := range []struct {
		msg  api.Digest
		want string
	}{
		{api.Digest{}, strings.Repeat("0", 64) + "3000"},
		{repeated(255), strings.Repeat("3", 64) + "0000"},
		{repeated(0x1b), strings.Repeat("0123", 16) + "1200"},
		{repeated(0xe4), strings.Repeat("3210", 16) + "1200"},
		{repeated(0x55), strings.Repeat("1", 64) + "2000"},
		{repeated(0xaa), strings.Repeat("2", 64) + "1000"},
		{repeated(0x80), strings.Repeat("2000", 16) + "2200"},
		{repeated(0x01), strings.Repeat("0001", 16) + "2300"},
		{counting(16), "0100010101020103011001110112011301200121012201230130013101320133" + "2000"},
		{api.Digest{0x1b, 0xe4, 0, 1, 2, 3, 4, 5, 0xa5, 0x5a, 0x3c, 0xc3, 0xf0, 0x0f, 0x69, 0x96}, "0123321000000001000200030010001122111122033030033300003312212112" + "1323"},
		{withSum(1), "2" + strings.Repeat("3", 63) + "0001"},
		{withSum(27), strings.Repeat("0", 9) + strings.Repeat("3", 55) + "0123"},
	} {
		if got := spelled(Digits(x.msg)); got != x.want {
			t.Errorf("Digits of %x = %s, want %s", x.msg, got, x.want)
		}
	}
}

// P4.1: each value of each bit pair of each byte, alone among bits of 0 and of 1.
func TestDigitsOfEveryPair(t *testing.T) {
	for i := range 16 {
		for j := range 4 {
			for d := range 4 {
				for _, rest := range []byte{0, 255} {
					msg := repeated(rest)
					shift := 6 - 2*j
					msg[i] = rest&^(3<<shift) | byte(d)<<shift
					want := slices.Repeat([]int{int(rest & 3)}, 64)
					want[4*i+j] = d
					sum := 192
					for _, x := range want {
						sum -= x
					}
					want = append(want, sum/64, sum%64/16, sum%16/4, sum%4)
					if got := Digits(msg); !slices.Equal(got, want) {
						t.Errorf("Digits of %x = %v, want %v", msg, got, want)
					}
				}
			}
		}
	}
}

// P4.1: each value of each byte, and messages of all kinds.
func TestDigitsOfEveryByte(t *testing.T) {
	try := func(msg api.Digest) {
		t.Helper()
		if got, want := Digits(msg), otherDigits(msg); !slices.Equal(got, want) {
			t.Errorf("Digits of %x = %v, want %v", msg, got, want)
		}
	}
	r := rand.New(rand.NewSource(2))
	for i := range 16 {
		for b := range 256 {
			var msg api.Digest
			msg[i] = byte(b)
			try(msg)
			r.Read(msg[:])
			msg[i] = byte(b)
			try(msg)
		}
	}
	for _, msg := range messages() {
		try(msg)
	}
}

// P4.1: every checksum, most significant digit first; the digits of all of them take every value that they can have.
func TestDigitsOfEveryChecksum(t *testing.T) {
	var seen [4][4]bool
	for sum := range 193 {
		l := Digits(withSum(sum))
		if len(l) != 68 {
			t.Fatalf("the checksum %d: %d digits", sum, len(l))
		}
		if got, want := spelled(l[64:]), base4(big.NewInt(int64(sum)), 4); got != want {
			t.Errorf("the checksum %d has the digits %s, want %s", sum, got, want)
		}
		for i, d := range l[64:] {
			seen[i][d] = true
		}
	}
	for i, l := range seen {
		for d, s := range l {
			if !s {
				t.Errorf("no checksum has the digit %d at %d", d, i)
			}
		}
	}
}

// P4.2: public keys that another implementation, in another language, has computed.
func TestPublicVectors(t *testing.T) {
	for _, x := range []struct {
		seed  api.Digest
		index int
		want  string
	}{
		{api.Digest{}, 0, "17e336dda0b673f056e66777637992d2"},
		{api.Digest{}, 1, "0fcdd650608de79e34ae9c8f6092ed8c"},
		{api.Digest{}, -1, "0743c79ebc583d2098bb3e64e7401f40"},
		{counting(0), 0, "441be95d17fe8fd60fafc4a21f2bb04d"},
		{counting(0), 1, "adee792bf683adbbc2bad092d3cc6b80"},
		{counting(0), -1, "9e51b148def9026768df037e4b54cb8b"},
		{counting(0), 63, "b5b2d82d9ff246fc477fb306a8421af1"},
		{counting(0), 64, "2c77a99a7e14821dd267de4ebdac558e"},
		{counting(0), -64, "5365b88228c408650ebaafb0eb099e13"},
		{counting(0), -65, "901f9192f90373479eb3a7ea678061ae"},
		{counting(0), math.MaxInt, "e5d2d7a1cde1ee812acd6bddedc3cd58"},
		{counting(0), math.MinInt, "df4e50e6c78e326564f8b6aa3357eee9"},
		{repeated(255), 0, "b3b0fd7f84d5d0e017c7f64d8346186a"},
		{repeated(255), math.MaxInt, "a98875c18df12eb5f0692f275e0a1bc7"},
		{repeated(255), math.MinInt, "a0829b03c8a81ac1fb0b72c57e99fb34"},
	} {
		d := Public(x.seed, x.index)
		if got := hex.EncodeToString(d[:]); got != x.want {
			t.Errorf("Public of %x and %d = %s, want %s", x.seed, x.index, got, x.want)
		}
	}
}

// P4.2: the key pairs of seeds and indices of all kinds have the public keys of another implementation, and no two have the same.
func TestPublicOfEveryKeyPair(t *testing.T) {
	seen := map[api.Digest]string{}
	for _, seed := range append(seeds, randomDigests(3, 3)...) {
		for _, index := range indices {
			got, name := Public(seed, index), fmt.Sprintf("%x and %d", seed, index)
			if want := otherPublic(seed, index); got != want {
				t.Errorf("Public of %s = %x, want %x", name, got, want)
			}
			if seen[got] != "" {
				t.Errorf("%s and %s have the same public key", seen[got], name)
			}
			seen[got] = name
		}
	}
}

// P4.3: signatures whose hash another implementation, in another language, has computed.
func TestSignVectors(t *testing.T) {
	for _, x := range []struct {
		seed  api.Digest
		index int
		msg   api.Digest
		want  string
	}{
		{api.Digest{}, 0, api.Digest{}, "4eda92db51455e1562dfb5a84f9842fb2119361f6ccf636209680255b9585c6e"},
		{counting(0), 5, repeated(255), "84e0206279d7f352014c2bbab23713bc12be09f97864290f6dccfa79b3e44a56"},
		{counting(0), -1, counting(16), "fc659ca786feaf71f25acfba86c8434edc9c1d105917be54f39a5f0124d25b8e"},
		{repeated(255), math.MaxInt, counting(240), "3de6e85e71707382dbd6161e2024d2f63ee5a5b2335820831e2bbcd34834543c"},
	} {
		var p []byte
		for _, v := range Sign(x.seed, x.index, x.msg) {
			p = append(p, v[:]...)
		}
		h := sha256.Sum256(p)
		if got := hex.EncodeToString(h[:]); got != x.want {
			t.Errorf("Sign of %x and %d, %x: hash %s, want %s", x.seed, x.index, x.msg, got, x.want)
		}
	}
}

// P4.3: the messages whose digits are all least and all greatest reveal the starts and the ends of the chains.
func TestSignExtremes(t *testing.T) {
	seed, index := counting(100), 7
	low, high := Sign(seed, index, api.Digest{}), Sign(seed, index, repeated(255))
	if len(low) != 68 || len(high) != 68 {
		t.Fatalf("signatures of %d and %d elements", len(low), len(high))
	}
	for k := range 68 {
		start, end := otherValue(seed, index, k, 0), otherValue(seed, index, k, 3)
		wantLow, wantHigh := start, end
		if k == 64 {
			wantLow = end
		}
		if k >= 64 {
			wantHigh = start
		}
		if low[k] != wantLow || high[k] != wantHigh {
			t.Errorf("chain %d: %x and %x, want %x and %x", k, low[k], high[k], wantLow, wantHigh)
		}
	}
}

// P4.3: the signatures of messages, seeds and indices of all kinds.
func TestSignEveryMessage(t *testing.T) {
	for i, msg := range messages() {
		for j, index := range indices {
			seed := seeds[(i+j)%len(seeds)]
			if got, want := Sign(seed, index, msg), otherSign(seed, index, msg); !slices.Equal(got, want) {
				t.Errorf("Sign of %x and %d, %x = %x, want %x", seed, index, msg, got, want)
			}
		}
	}
}

// P4.4: what Recover returns for lists of digests that no key pair has made, too.
func TestRecoverAnyChain(t *testing.T) {
	chains := [][]api.Digest{make([]api.Digest, 68), slices.Repeat([]api.Digest{repeated(255)}, 68)}
	for i := range int64(5) {
		chains = append(chains, randomDigests(68, 10+i))
	}
	for _, msg := range messages() {
		for i, chain := range chains {
			got, err := Recover(msg, chain)
			if want := otherRecover(msg, chain); got != want || err != api.OK {
				t.Errorf("Recover of %x and list %d = %x, %d, want %x", msg, i, got, err, want)
			}
		}
	}
}

// P4.4: a signature that has not just one element for each chain is refused, whatever lies behind it.
func TestRecoverRefusesLengths(t *testing.T) {
	for i, msg := range messages() {
		s := Sign(seeds[i%len(seeds)], i, msg)
		long := slices.Concat(s, s, s)
		for _, n := range []int{0, 1, 2, 3, 4, 16, 63, 64, 65, 66, 67, 69, 70, 72, 128, 136, 204} {
			if got, err := Recover(msg, long[:n]); got != (api.Digest{}) || err != api.ErrSignature {
				t.Errorf("Recover of %d elements = %x, %d", n, got, err)
			}
		}
		for _, chain := range [][]api.Digest{nil, {}, s[:67], s[1:], append([]api.Digest{{}}, s...)} {
			if got, err := Recover(msg, chain); got != (api.Digest{}) || err != api.ErrSignature {
				t.Errorf("Recover of %d elements = %x, %d", len(chain), got, err)
			}
		}
		if got, err := Recover(msg, long[:68]); got != otherPublic(seeds[i%len(seeds)], i) || err != api.OK {
			t.Errorf("Recover of 68 of %d elements = %x, %d", len(long), got, err)
		}
	}
	great := make([]api.Digest, 100000)
	if got, err := Recover(api.Digest{}, great); got != (api.Digest{}) || err != api.ErrSignature {
		t.Errorf("Recover of %d elements = %x, %d", len(great), got, err)
	}
}

// refused reports an error if a list of 68 elements is a signature of a message under a public key.
func refused(t *testing.T, key, msg api.Digest, chain []api.Digest, format string, args ...any) {
	t.Helper()
	if got, err := Recover(msg, chain); got == key || err != api.OK {
		t.Errorf("%s: Recover of %x = %x, %d", fmt.Sprintf(format, args...), msg, got, err)
	}
}

// P4.4: with any bit of any element changed, a signature is one under another public key.
func TestRecoverChangedElements(t *testing.T) {
	seed, index, msg := counting(7), 3, counting(200)
	key, s := Public(seed, index), Sign(seed, index, msg)
	for k := range s {
		for bit := range 128 {
			changed := slices.Clone(s)
			changed[k][bit/8] ^= 1 << (bit % 8)
			refused(t, key, msg, changed, "bit %d of element %d is changed", bit, k)
		}
	}
	for _, msg := range messages() {
		s := Sign(seed, index, msg)
		for k := range s {
			changed := slices.Clone(s)
			changed[k] = api.Digest{}
			refused(t, key, msg, changed, "element %d is zero", k)
		}
	}
}

// P4.4: an element counts for its own chain only.
func TestRecoverMovedElements(t *testing.T) {
	seed, index := counting(9), 0
	key := Public(seed, index)
	for _, msg := range []api.Digest{{}, repeated(255), repeated(0x1b), counting(50)} {
		s := Sign(seed, index, msg)
		for k := range s {
			for _, j := range []int{(k + 1) % 68, (k + 4) % 68, (k + 64) % 68} {
				moved := slices.Clone(s)
				moved[k], moved[j] = moved[j], moved[k]
				refused(t, key, msg, moved, "elements %d and %d are swapped", k, j)
				moved = slices.Clone(s)
				moved[k] = s[j]
				refused(t, key, msg, moved, "element %d is element %d", k, j)
			}
		}
	}
}

// P4.4: an element that is advanced too far or not far enough is as bad as any other one, even if it is a value of its chain.
func TestRecoverOtherHeights(t *testing.T) {
	seed, index := counting(11), 12
	key := Public(seed, index)
	for _, msg := range []api.Digest{{}, repeated(255), repeated(0x1b), repeated(0xe4), withSum(27), withSum(177)} {
		s, l := Sign(seed, index, msg), Digits(msg)
		for k := range s {
			for height := range 7 {
				changed := slices.Clone(s)
				changed[k] = otherValue(seed, index, k, height)
				if height != l[k] {
					refused(t, key, msg, changed, "element %d has the height %d, not %d", k, height, l[k])
				} else if got, err := Recover(msg, changed); got != key || err != api.OK {
					t.Errorf("element %d has the height %d: %x, %d", k, height, got, err)
				}
			}
		}
	}
}

// P4.4: ends and starts of chains are signatures where the digits are 3 and 0; because of the checksum, no message has all ends or all starts as its signature.
func TestRecoverEndsAndStarts(t *testing.T) {
	seed, index := counting(13), 1
	var ends, starts []api.Digest
	for k := range 68 {
		ends = append(ends, otherValue(seed, index, k, 3))
		starts = append(starts, otherValue(seed, index, k, 0))
	}
	key := Public(seed, index)
	if got, _ := Recover(repeated(255), slices.Concat(ends[:64], starts[64:])); got != key {
		t.Errorf("the ends of the message's chains and the starts of the checksum's: %x", got)
	}
	if got, _ := Recover(api.Digest{}, slices.Concat(starts[:64], ends[64:65], starts[65:])); got != key {
		t.Errorf("the starts of the message's chains and of the checksum's but for the end of the first one: %x", got)
	}
	for _, msg := range messages() {
		refused(t, key, msg, ends, "all ends")
		refused(t, key, msg, starts, "all starts")
	}
}

// P4.5: what Sign returns is a signature under the public key, and under that of no other key pair or message.
func TestSignaturesRecover(t *testing.T) {
	all := messages()
	for i, msg := range all {
		for j, index := range indices {
			seed := seeds[(i+j)%len(seeds)]
			key, s := Public(seed, index), Sign(seed, index, msg)
			if got, err := Recover(msg, s); got != key || err != api.OK {
				t.Errorf("Recover of the signature of %x by %x and %d = %x, %d, want %x", msg, seed, index, got, err, key)
			}
			for _, other := range all {
				if other != msg {
					refused(t, key, other, s, "the signature of %x", msg)
				}
			}
		}
	}
}

// P4.5: seeds, indices and messages at random.
func TestRandomSignaturesRecover(t *testing.T) {
	r := rand.New(rand.NewSource(4))
	for range 300 {
		d := randomDigests(2, r.Int63())
		index := int(r.Uint64()) >> r.Intn(64)
		s := Sign(d[0], index, d[1])
		if got, err := Recover(d[1], s); got != Public(d[0], index) || err != api.OK {
			t.Errorf("Recover of the signature of %x by %x and %d = %x, %d", d[1], d[0], index, got, err)
		}
	}
}

// neighbours returns the messages that differ from msg in one digit, or in one digit up and one digit down, so that the checksum is the same.
func neighbours(msg api.Digest) []api.Digest {
	l := Digits(msg)
	with := func(msg api.Digest, i, d int) api.Digest {
		shift := 6 - 2*(i%4)
		msg[i/4] = msg[i/4]&^(3<<shift) | byte(d)<<shift
		return msg
	}
	var out []api.Digest
	for i := range 64 {
		for d := range 4 {
			if d != l[i] {
				out = append(out, with(msg, i, d))
			}
		}
		for j := range 64 {
			if i != j && l[i] < 3 && l[j] > 0 {
				out = append(out, with(with(msg, i, l[i]+1), j, l[j]-1))
			}
		}
	}
	return out
}

// crossed reports an error if the digits of one of two different messages are nowhere less, or nowhere greater, than those of the other one.
func crossed(t *testing.T, a, b api.Digest) {
	t.Helper()
	less, greater := false, false
	l, m := Digits(a), Digits(b)
	for k := range l {
		less = less || l[k] < m[k]
		greater = greater || l[k] > m[k]
	}
	if !less || !greater {
		t.Errorf("the digits of %x and %x: %v and %v", a, b, l, m)
	}
}

// P4.5: of two different messages, each has a digit that is less than that of the other one.
func TestDigitsCross(t *testing.T) {
	all := append(messages(), randomDigests(200, 5)...)
	for sum := range 193 {
		all = append(all, withSum(sum))
	}
	for i, a := range all {
		for _, b := range all[:i] {
			if a != b {
				crossed(t, a, b)
			}
		}
	}
	for _, a := range messages() {
		for _, b := range neighbours(a) {
			crossed(t, a, b)
		}
	}
}

// P4.5: advancing the elements of a signature does not make it one of another message.
func TestAdvancingDoesNotForge(t *testing.T) {
	seed, index := counting(17), 2
	key := Public(seed, index)
	for _, from := range []api.Digest{{}, repeated(255), repeated(0x1b), counting(0), withSum(64)} {
		s, have := Sign(seed, index, from), Digits(from)
		near := neighbours(from)
		others := append(messages(), near[:min(200, len(near))]...)
		for _, to := range others {
			if to == from {
				continue
			}
			forged := slices.Clone(s)
			for k, d := range Digits(to) {
				forged[k] = advanced(k, s[k], d-have[k])
			}
			refused(t, key, to, forged, "the signature of %x, advanced", from)
		}
	}
}

// The section Memory of DOC.md: a signature is not modified, nor is what lies behind it.
func TestArgumentsAreNotModified(t *testing.T) {
	for _, msg := range messages() {
		whole := slices.Concat(Sign(seeds[1], 8, msg), randomDigests(20, 6))
		before := slices.Clone(whole)
		for n := range len(whole) + 1 {
			Recover(msg, whole[:n])
			if !slices.Equal(whole, before) {
				t.Fatalf("Recover of %x changes %d elements or what is behind them", msg, n)
			}
		}
	}
}

// The sections Memory and State of DOC.md: results are the same in every call and share no memory with anything.
func TestCallsAreIndependent(t *testing.T) {
	for i, msg := range messages() {
		seed := seeds[i%len(seeds)]
		l, s, key := Digits(msg), Sign(seed, i, msg), Public(seed, i)
		digits, chain := slices.Clone(l), slices.Clone(s)
		clear(l[:cap(l)])
		clear(s[:cap(s)])
		if !slices.Equal(Digits(msg), digits) || !slices.Equal(Sign(seed, i, msg), chain) || Public(seed, i) != key {
			t.Errorf("second calls for %x have other results", msg)
		}
		first, _ := Recover(msg, chain)
		second, err := Recover(msg, chain)
		if first != key || second != key || err != api.OK {
			t.Errorf("Recover of %x = %x, then %x, %d, want %x", msg, first, second, err, key)
		}
	}
}
