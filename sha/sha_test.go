package sha

import (
	"bytes"
	"crypto/hmac"
	"crypto/sha256"
	"encoding/binary"
	"encoding/hex"
	"math"
	"math/rand"
	"slices"
	"strings"
	"testing"

	"bootchain/api"
)

// randomBytes returns n bytes that depend on n and seed only.
func randomBytes(n int, seed int64) []byte {
	b := make([]byte, n)
	rand.New(rand.NewSource(seed*1e6 + int64(n))).Read(b)
	return b
}

// sizes are lengths at both sides of every border of the padding, and longer ones.
var sizes = []int{0, 1, 2, 3, 31, 32, 33, 54, 55, 56, 57, 62, 63, 64, 65, 66, 118, 119, 120, 121, 127, 128, 129, 183, 184, 191, 192, 193, 1000, 8191, 8192, 100001}

// P2.1: published hashes.
func TestSumVectors(t *testing.T) {
	for _, x := range []struct{ text, want string }{
		{"", "e3b0c44298fc1c149afbf4c8996fb92427ae41e4649b934ca495991b7852b855"},
		{"abc", "ba7816bf8f01cfea414140de5dae2223b00361a396177a9cb410ff61f20015ad"},
		{"abcdbcdecdefdefgefghfghighijhijkijkljklmklmnlmnomnopnopq", "248d6a61d20638b8e5c026930c3e6039a33ce45964ff2167f6ecedd419db06c1"},
		{"abcdefghbcdefghicdefghijdefghijkefghijklfghijklmghijklmnhijklmnoijklmnopjklmnopqklmnopqrlmnopqrsmnopqrstnopqrstu", "cf5b16a778af8380036ce59e7b0492370b249b11e8f07a51afac45037afee9d1"},
		{strings.Repeat("a", 1000000), "cdc76e5c9914fb9281a1c7e284d73e67f1809a48a497200e046d39ccc7112cd0"},
		{"\xbd", "68325720aabd7c82f30f554b313d0570c95accbb7dc4b5aae11204c08ffe732b"},
		{strings.Repeat("\x00", 55), "02779466cdec163811d078815c633f21901413081449002f24aa3e80f0b88ef7"},
		{strings.Repeat("\x00", 56), "d4817aa5497628e7c77e6b606107042bbba3130888c5f47a375e6179be789fbb"},
		{strings.Repeat("\x00", 64), "f5a5fd42d16a20302798ef6ed309979b43003d2320d9f0e8ea9831a92759fb4b"},
	} {
		h := Sum([]byte(x.text))
		if got := hex.EncodeToString(h[:]); got != x.want {
			t.Errorf("Sum of %d bytes %.20q = %s, want %s", len(x.text), x.text, got, x.want)
		}
	}
}

// P2.1: messages of all short lengths and of several blocks have the hashes of another implementation.
func TestSumOfEveryLength(t *testing.T) {
	try := func(b []byte) {
		t.Helper()
		if got, want := Sum(b), sha256.Sum256(b); got != want {
			t.Errorf("Sum of %d bytes = %x, want %x", len(b), got, want)
		}
	}
	for n := range 400 {
		try(randomBytes(n, 1))
		try(make([]byte, n))
		try(bytes.Repeat([]byte{255}, n))
	}
	for _, n := range sizes {
		try(randomBytes(n, 2))
	}
	try(nil)
}

// P2.1: the length in bits takes more than three bytes.
func TestSumOfLongMessage(t *testing.T) {
	for _, n := range []int{1<<21 - 1, 1 << 21, 1<<21 + 1} {
		b := bytes.Repeat([]byte{7}, n)
		if got, want := Sum(b), sha256.Sum256(b); got != want {
			t.Errorf("Sum of %d bytes = %x, want %x", n, got, want)
		}
	}
}

// P2.1: no test hashes a message of 2^29 bytes or more; the length at the end of the padding is checked instead.
func TestLastBlocks(t *testing.T) {
	for _, size := range []int{0, 1, 1<<29 - 1, 1 << 29, 1<<31 - 1} {
		rest := randomBytes(size%64, 3)
		b := lastBlocks(rest, size)
		if len(b)%64 != 0 || len(b) > 128 || !bytes.Equal(b[:len(rest)], rest) || b[len(rest)] != 128 {
			t.Fatalf("the last blocks of %d bytes: %v", size, b)
		}
		end := len(b) - 8
		if n := binary.BigEndian.Uint64(b[end:]); n != 8*uint64(size) {
			t.Errorf("the length of %d bytes: %d bits", size, n)
		}
		if slices.ContainsFunc(b[len(rest)+1:end], func(c byte) bool { return c != 0 }) {
			t.Errorf("the padding of %d bytes: %v", size, b)
		}
	}
}

// P2.2: the test cases of RFC 4231, the fifth of which gives 16 bytes only.
func TestHMACVectors(t *testing.T) {
	counting := make([]byte, 25)
	for i := range counting {
		counting[i] = byte(i + 1)
	}
	for i, x := range []struct{ key, b, want string }{
		{strings.Repeat("\x0b", 20), "Hi There", "b0344c61d8db38535ca8afceaf0bf12b881dc200c9833da726e9376c2e32cff7"},
		{"Jefe", "what do ya want for nothing?", "5bdcc146bf60754e6a042426089575c75a003f089d2739839dec58b964ec3843"},
		{strings.Repeat("\xaa", 20), strings.Repeat("\xdd", 50), "773ea91e36800e46854db8ebd09181a72959098b3ef8c122d9635514ced565fe"},
		{string(counting), strings.Repeat("\xcd", 50), "82558a389a443c0ea4cc819899f2083a85f0faa3e578f8077a2e3ff46729665b"},
		{strings.Repeat("\x0c", 20), "Test With Truncation", "a3b6167473100ee06e0c796c2955552b"},
		{strings.Repeat("\xaa", 131), "Test Using Larger Than Block-Size Key - Hash Key First", "60e431591ee0b67f0d8a26aacbf5b77f8e0bc6213728c5140546040f0ee37f54"},
		{strings.Repeat("\xaa", 131), "This is a test using a larger than block-size key and a larger than block-size data. The key needs to be hashed before being used by the HMAC algorithm.", "9b09ffa71b942fcb27635fbcd5b0e944bfdc63644f0713938a7f51535c3a35e2"},
	} {
		h := HMAC([]byte(x.key), []byte(x.b))
		if got := hex.EncodeToString(h[:]); !strings.HasPrefix(got, x.want) {
			t.Errorf("HMAC of case %d = %s, want %s", i+1, got, x.want)
		}
		m := MAC([]byte(x.key), []byte(x.b))
		if got := hex.EncodeToString(m[:]); got != x.want[:32] {
			t.Errorf("MAC of case %d = %s, want %s", i+1, got, x.want[:32])
		}
	}
}

// otherHMAC is HMAC-SHA-256 of another implementation.
func otherHMAC(key, b []byte) [32]byte {
	h := hmac.New(sha256.New, key)
	h.Write(b)
	return [32]byte(h.Sum(nil))
}

// P2.2: keys and messages of all lengths around a block.
func TestHMACOfEveryLength(t *testing.T) {
	try := func(key, b []byte) {
		t.Helper()
		got, want := HMAC(key, b), otherHMAC(key, b)
		if got != want {
			t.Errorf("HMAC under %d bytes of %d bytes = %x, want %x", len(key), len(b), got, want)
		}
		if m := MAC(key, b); m != api.Digest(want[:16]) {
			t.Errorf("MAC under %d bytes of %d bytes = %x, want %x", len(key), len(b), m, want[:16])
		}
	}
	for n := range 200 {
		try(randomBytes(n, 4), randomBytes(20, 5))
		try(randomBytes(16, 6), randomBytes(n, 7))
	}
	for _, n := range sizes {
		for _, k := range []int{0, 1, 16, 32, 63, 64, 65, 128, 129, 1000} {
			try(randomBytes(k, 8), randomBytes(n, 9))
		}
	}
	try(nil, nil)
}

// P2.2: a key is filled with zeros up to 64 bytes; a longer one stands for its hash.
func TestHMACKeys(t *testing.T) {
	b := []byte("message")
	full := randomBytes(64, 10)
	clear(full[40:])
	if HMAC(full[:40], b) != HMAC(full, b) || HMAC(nil, b) != HMAC(make([]byte, 64), b) {
		t.Error("a short key is not filled with zeros")
	}
	long := randomBytes(65, 11)
	hash := Sum(long)
	if HMAC(long, b) != HMAC(hash[:], b) {
		t.Error("a key of 65 bytes is not hashed")
	}
	hash = Sum(full)
	if HMAC(full, b) == HMAC(hash[:], b) {
		t.Error("a key of 64 bytes is hashed")
	}
}

// partLists are lists of parts with the bytes that are hashed for them, in a spelling that does not use package wire.
func partLists() []struct {
	parts [][]byte
	flat  string
} {
	type list = struct {
		parts [][]byte
		flat  string
	}
	long := randomBytes(64, 12)
	great := randomBytes(8192, 13)
	many := make([][]byte, 300)
	flat := ""
	for i := range many {
		many[i] = randomBytes(i%64, 14)
		flat += string([]byte{byte(2 * (i % 64))}) + string(many[i])
	}
	return []list{
		{nil, ""},
		{[][]byte{}, ""},
		{[][]byte{nil}, "\x00"},
		{[][]byte{{}}, "\x00"},
		{[][]byte{nil, {}, nil}, "\x00\x00\x00"},
		{[][]byte{{0}}, "\x02\x00"},
		{[][]byte{[]byte("ab")}, "\x04ab"},
		{[][]byte{[]byte("a"), []byte("b")}, "\x02a\x02b"},
		{[][]byte{[]byte("b"), []byte("a")}, "\x02b\x02a"},
		{[][]byte{[]byte("ab"), nil}, "\x04ab\x00"},
		{[][]byte{nil, []byte("ab")}, "\x00\x04ab"},
		{[][]byte{[]byte("\x02a\x02b")}, "\x08\x02a\x02b"},
		{[][]byte{{255, 128}}, "\x04\xff\x80"},
		{[][]byte{long[:63]}, "\x7e" + string(long[:63])},
		{[][]byte{long}, "\x80\x01" + string(long)},
		{[][]byte{great, long}, "\x80\x80\x01" + string(great) + "\x80\x01" + string(long)},
		{many, flat},
	}
}

// P2.3: the tag's last byte and the encodings of the parts are hashed.
func TestDigest(t *testing.T) {
	for _, tag := range []struct {
		n int
		b byte
	}{
		{0, 0}, {1, 1}, {18, 18}, {127, 127}, {128, 128}, {255, 255},
		{256, 0}, {259, 3}, {511, 255}, {1 << 32, 0}, {1<<40 + 77, 77}, {math.MaxInt, 255},
		{-1, 255}, {-2, 254}, {-128, 128}, {-255, 1}, {-256, 0}, {-257, 255}, {-1000, 24}, {math.MinInt, 0}, {math.MinInt + 5, 5},
	} {
		for i, x := range partLists() {
			want := sha256.Sum256([]byte(string([]byte{tag.b}) + x.flat))
			if got := Digest(tag.n, x.parts...); got != api.Digest(want[:16]) {
				t.Errorf("Digest of the tag %d and list %d = %x, want %x", tag.n, i, got, want[:16])
			}
		}
	}
}

// P2.4: the encodings of the label and of the parts are authenticated under the key.
func TestDerive(t *testing.T) {
	long := strings.Repeat("seal", 20)
	for _, k := range []int{0, 1, 16, 63, 64, 65, 200} {
		key := randomBytes(k, 15)
		for _, label := range []struct{ text, flat string }{
			{"", "\x00"}, {"seal", "\x08seal"}, {"\xff\x00", "\x04\xff\x00"}, {long, "\xa0\x01" + long},
		} {
			for i, x := range partLists() {
				want := otherHMAC(key, []byte(label.flat+x.flat))
				if got := Derive(key, label.text, x.parts...); got != api.Digest(want[:16]) {
					t.Errorf("Derive of a key of %d bytes, %.8q and list %d = %x, want %x", k, label.text, i, got, want[:16])
				}
			}
		}
	}
}

// stream returns the first n blocks of the key stream of a key, whose numbers are encoded here by hand.
func stream(key []byte, n int) []byte {
	var out []byte
	for i := range n {
		u := 2 * i
		number := []byte{byte(u)}
		if u >= 128 {
			number = []byte{byte(u) | 128, byte(u >> 7)}
		}
		block := otherHMAC(key, number)
		out = append(out, block[:]...)
	}
	return out
}

// P2.5: streams of every length, far enough that the blocks' numbers take two bytes.
func TestStream(t *testing.T) {
	for _, k := range []int{0, 3, 16, 64, 65, 130} {
		key := randomBytes(k, 16)
		whole := stream(key, 80)
		for _, n := range []int{0, 1, 2, 16, 31, 32, 33, 63, 64, 65, 70, 96, 100, 2047, 2048, 2049, 2080, 2081, 2559, 2560} {
			if got := Stream(key, n); !bytes.Equal(got, whole[:n]) {
				t.Errorf("Stream of a key of %d bytes, %d bytes: %x, want %x", k, n, got, whole[:n])
			}
		}
	}
}

// P2.5: a stream of negative length has no bytes.
func TestStreamOfNegativeLength(t *testing.T) {
	for _, n := range []int{-1, -2, -31, -32, -33, -1000, math.MinInt + 1, math.MinInt} {
		if got := Stream([]byte("key"), n); len(got) != 0 {
			t.Errorf("Stream of %d bytes = %x", n, got)
		}
	}
}

// P2.6: a shorter stream is a prefix of a longer one.
func TestStreamPrefixes(t *testing.T) {
	key := []byte("key")
	whole := Stream(key, 300)
	for n := range whole {
		if got := Stream(key, n); !bytes.Equal(got, whole[:n]) {
			t.Errorf("Stream of %d bytes = %x, want %x", n, got, whole[:n])
		}
	}
}

// P2.6: all tags and lists of parts, however similar, have digests of their own, and so have all labels.
func TestDomainsAreSeparate(t *testing.T) {
	var lists [][][]byte
	pieces := [][]byte{{}, {0}, {1}, {2, 0}, {0, 0}, {4, 2, 0}}
	lists = append(lists, nil)
	for _, a := range pieces {
		lists = append(lists, [][]byte{a})
		for _, b := range pieces {
			lists = append(lists, [][]byte{a, b})
			for _, c := range pieces {
				lists = append(lists, [][]byte{a, b, c})
			}
		}
	}
	seen := map[api.Digest]bool{}
	count := 0
	add := func(d api.Digest) {
		seen[d] = true
		count++
	}
	for _, parts := range lists {
		for tag := range 256 {
			add(Digest(tag, parts...))
		}
		for _, label := range []string{"", "\x00", "\x01", "\x02\x00", "seal", "seal\x00"} {
			add(Derive(nil, label, parts...))
		}
	}
	if len(seen) != count {
		t.Errorf("%d inputs have %d digests", count, len(seen))
	}
}

// roomy returns a copy of b with room behind it, which an append to it would overwrite, and a check that all of it is unchanged.
func roomy(t *testing.T, b []byte) ([]byte, func()) {
	whole := append(slices.Clone(b), bytes.Repeat([]byte{170}, 150)...)
	before := slices.Clone(whole)
	return whole[:len(b)], func() {
		t.Helper()
		if !bytes.Equal(whole, before) {
			t.Errorf("an argument of %d bytes was changed", len(b))
		}
	}
}

// The section Memory of DOC.md: arguments are not modified, nor is what lies behind them.
func TestArgumentsAreNotModified(t *testing.T) {
	for _, k := range []int{0, 16, 55, 64, 65, 100} {
		for _, n := range []int{0, 1, 55, 56, 63, 64, 65, 200} {
			key, checkKey := roomy(t, randomBytes(k, 17))
			b, checkB := roomy(t, randomBytes(n, 18))
			Sum(b)
			HMAC(key, b)
			MAC(key, b)
			Stream(key, n)
			whole := [][]byte{b, key, b, {1}}
			parts := whole[:3]
			Digest(3, parts...)
			Derive(key, "label", parts...)
			checkKey()
			checkB()
			if !slices.EqualFunc(whole, [][]byte{b, key, b, {1}}, bytes.Equal) {
				t.Error("the list of parts was changed")
			}
		}
	}
}

// The sections Memory and State of DOC.md: results are the same in every call and share no memory.
func TestCallsAreIndependent(t *testing.T) {
	key, b := []byte("key"), randomBytes(100, 19)
	first := Stream(key, 100)
	kept := slices.Clone(first)
	sum, mac, digest, derived := Sum(b), MAC(key, b), Digest(1, b), Derive(key, "x", b)
	for i := range first {
		first[i] ^= 255
	}
	if !bytes.Equal(Stream(key, 100), kept) {
		t.Error("two results of Stream share memory")
	}
	if Sum(b) != sum || MAC(key, b) != mac || Digest(1, b) != digest || Derive(key, "x", b) != derived {
		t.Error("a second call has another result")
	}
	clear(key)
	clear(b)
	if !bytes.Equal(Stream([]byte("key"), 100), kept) {
		t.Error("Stream keeps its key")
	}
}
