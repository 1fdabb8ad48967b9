package box

import (
	"bytes"
	"crypto/hmac"
	"crypto/sha256"
	"encoding/binary"
	"encoding/hex"
	"math"
	"math/rand"
	"slices"
	"strings"
	"sync"
	"testing"

	"bootchain/api"
)

// repeated returns the digest whose bytes are all b.
func repeated(b byte) api.Digest {
	var d api.Digest
	for i := range d {
		d[i] = b
	}
	return d
}

// counting returns the digest whose bytes are b, b+1 and so on.
func counting(b byte) api.Digest {
	var d api.Digest
	for i := range d {
		d[i] = b + byte(i)
	}
	return d
}

// flipped returns d with one of its 128 bits changed.
func flipped(d api.Digest, bit int) api.Digest {
	d[bit/8] ^= 1 << (bit % 8)
	return d
}

// random returns n bytes that depend on n and seed only.
func random(n int, seed int64) string {
	b := make([]byte, n)
	rand.New(rand.NewSource(seed*1e6 + int64(n))).Read(b)
	return string(b)
}

// everyByte is a string of 256 different bytes.
func everyByte() string {
	var b []byte
	for c := range 256 {
		b = append(b, byte(c))
	}
	return string(b)
}

// keys are keys of all kinds, no two of them equal.
var keys = []api.Digest{{}, counting(0), repeated(255), {15: 1}, {128}, counting(200)}

// nonces are nonces of all kinds: the ends of the lengths of their encodings among them.
var nonces = []int{0, 1, -1, 2, -2, 7, -7, 63, -64, 64, -65, 8191, -8192, 8192, 1 << 31, -1 << 31, 1 << 32, -1 << 32, 1 << 62, -1 << 62, math.MaxInt - 1, math.MaxInt, math.MinInt + 1, math.MinInt}

// lengths are lengths of texts: those at both sides of the end of a block of the key stream, and those whose encodings have one byte more.
var lengths = []int{0, 1, 2, 15, 16, 17, 31, 32, 33, 63, 64, 65, 95, 96, 97, 127, 128, 1000}

// texts are texts of all kinds.
func texts() []string {
	l := []string{everyByte(), "a secret", "h\u00e9llo, w\u00f6rld", "\xff\xfe\x80", "\x00", strings.Repeat(everyByte(), 4)}
	for _, n := range lengths {
		l = append(l, strings.Repeat("\x00", n), strings.Repeat("\xff", n), random(n, 1))
	}
	return l
}

// otherInt is wire.Int, as another implementation has it.
func otherInt(n int) []byte { return binary.AppendVarint(nil, int64(n)) }

// otherBytes is wire.Bytes.
func otherBytes(s string) []byte { return append(otherInt(len(s)), s...) }

// otherHash is sha.HMAC, as another implementation has it.
func otherHash(key, b []byte) []byte {
	h := hmac.New(sha256.New, key)
	h.Write(b)
	return h.Sum(nil)
}

// encryptKey is the key of the key stream for a nonce.
func encryptKey(key api.Digest, nonce int) []byte {
	n := otherInt(nonce)
	return otherHash(key[:], slices.Concat(otherBytes("encrypt"), otherBytes(string(n))))[:16]
}

// authenticateKey is the key of the tags.
func authenticateKey(key api.Digest) []byte {
	return otherHash(key[:], otherBytes("authenticate"))[:16]
}

// otherStream is the beginning of the key stream for a nonce.
func otherStream(key api.Digest, nonce, n int) []byte {
	k := encryptKey(key, nonce)
	var out []byte
	for i := 0; len(out) < n; i++ {
		out = append(out, otherHash(k, otherInt(i))...)
	}
	return out[:n]
}

// otherCrypt encrypts a plain text or decrypts a cipher text, byte by byte.
func otherCrypt(key api.Digest, nonce int, text string) string {
	stream := otherStream(key, nonce, len(text))
	out := make([]byte, len(text))
	for i := range len(text) {
		out[i] = text[i] ^ stream[i]
	}
	return string(out)
}

// otherTag is the tag of a nonce and a cipher text.
func otherTag(key api.Digest, nonce int, cipher string) api.Digest {
	return api.Digest(otherHash(authenticateKey(key), slices.Concat(otherInt(nonce), otherBytes(cipher)))[:16])
}

// otherSeal is Seal, computed in another way.
func otherSeal(key api.Digest, nonce int, plain string) api.Box {
	cipher := otherCrypt(key, nonce, plain)
	return api.Box{Nonce: nonce, Cipher: cipher, Tag: otherTag(key, nonce, cipher)}
}

// same reports an error if Seal does not return the box of the other implementation.
func same(t *testing.T, key api.Digest, nonce int, plain string) {
	t.Helper()
	if got, want := Seal(key, nonce, plain), otherSeal(key, nonce, plain); got != want {
		t.Errorf("Seal of %x, %d and %d bytes = %d, %x, %x, want %d, %x, %x", key, nonce, len(plain), got.Nonce, got.Cipher, got.Tag, want.Nonce, want.Cipher, want.Tag)
	}
}

// opens reports an error if a box does not open to a plain text.
func opens(t *testing.T, key api.Digest, b api.Box, plain string) {
	t.Helper()
	if got, err := Open(key, b); got != plain || err != api.OK {
		t.Errorf("Open of %x and %d, %x, %x = %x, %d, want %x", key, b.Nonce, b.Cipher, b.Tag, got, err, plain)
	}
}

// refused reports an error if a box opens, or if anything is returned beside the error.
func refused(t *testing.T, key api.Digest, b api.Box, change string) {
	t.Helper()
	if got, err := Open(key, b); got != "" || err != api.ErrCorrupt {
		t.Errorf("%s: Open of %x and %d, %x, %x = %x, %d", change, key, b.Nonce, b.Cipher, b.Tag, got, err)
	}
}

// eachSeal calls f with every key and text, and with the nonces in turn.
func eachSeal(f func(key api.Digest, nonce int, plain string)) {
	turn := 0
	for _, key := range keys {
		for _, plain := range texts() {
			f(key, nonces[turn%len(nonces)], plain)
			turn++
		}
	}
}

// P6.1 and P6.2: boxes that another implementation, in another language, has computed.
func TestVectors(t *testing.T) {
	for _, x := range []struct {
		key         api.Digest
		nonce       int
		plain       string
		cipher, tag string
	}{
		{api.Digest{}, 0, "", "", "e84ddf7a1fc103abd9dafd1b259408f8"},
		{api.Digest{}, 1, "", "", "9c830d1aba669c72e4d610f4bf6e39b1"},
		{api.Digest{}, 0, "a", "74", "7d9ad633e6a231a095dae6425abbf1bc"},
		{counting(0), 0, "", "", "45a56932e68f0eb4947a1dcfd7d237d0"},
		{counting(0), -1, "a secret", "b90ea8661a0cdb88", "1592643568fe95fc718f7c71507bf84e"},
		{counting(0), 7, strings.Repeat("\x00", 31), "479ccb11c056dfd37dc34c7969229eacb3afd00a9cf65f97db5bd328be0ecf", "4702a43582f6391d8f0fc74141ef1426"},
		{counting(0), 63, strings.Repeat("\x00", 32), "363d6e1ece4501af1167333b306cadd6bea1b624d63ae9bf7ea29fbf2e29d021", "7ef5ed723b381e79fe08fa14a13d83ed"},
		{counting(0), 64, strings.Repeat("\x00", 33), "2a192193a86481160c44be48d7517ddd63a52009cbd8b4dacd201f869a2ea4f84a", "4f4c2ccb73611309129695d53e8e4a49"},
		{counting(0), -65, strings.Repeat("\xff", 64), "11a07b4d3accacc97ae523fbaad98a618dee2bb1214b6f5db1e75173fafbcd5f423580405c8174b7f74f9aca4081d537dede3dd57c0f8fdcb9f91d25c918e94b", "21e8d2f22ddb99b201e4083d3c69e87f"},
		{counting(0), math.MaxInt, "\x00\xff\x80", "63fc70", "de4225b47124a4bb7a8d112927bba155"},
		{counting(0), math.MinInt, "\x00\xff\x80", "66c981", "4f5ea949bb3aa628673f232c7a48f103"},
		{repeated(255), math.MaxInt, "", "", "8834b037c43d248dda0e2728f0e67d7b"},
		{repeated(255), math.MinInt, strings.Repeat("\xff", 33), "e96c98c8963d5fbf43553918ea1387a352464fcd440c8472254224b9dbf7ef00e7", "f49946ef6f772fa8dfb4206fab210db4"},
		{repeated(255), 300, "h\u00e9llo, w\u00f6rld", "2debae7e45f12982b52580e66dbe", "37f7b4dc511b40a7e421bd1f6f7efb31"},
	} {
		b := Seal(x.key, x.nonce, x.plain)
		if cipher, tag := hex.EncodeToString([]byte(b.Cipher)), hex.EncodeToString(b.Tag[:]); b.Nonce != x.nonce || cipher != x.cipher || tag != x.tag {
			t.Errorf("Seal of %x, %d and %x = %d, %s, %s, want %s, %s", x.key, x.nonce, x.plain, b.Nonce, cipher, tag, x.cipher, x.tag)
		}
		cipher, _ := hex.DecodeString(x.cipher)
		tag, _ := hex.DecodeString(x.tag)
		opens(t, x.key, api.Box{Nonce: x.nonce, Cipher: string(cipher), Tag: api.Digest(tag)}, x.plain)
	}
}

// P6.1: the hashes of longer cipher texts, and their tags, as another implementation, in another language, has computed them.
func TestLongVectors(t *testing.T) {
	for _, x := range []struct {
		key         api.Digest
		nonce       int
		plain       string
		cipher, tag string
	}{
		{counting(0), 0, everyByte(), "87b4ceaa44b2ca754f591a5fb85bfae650071b22346ac431cc02dadfc4ba7e5e", "170deb7835a6320404fa23809e396eaf"},
		{counting(0), -1, strings.Repeat("\x00", 1000), "6a17c0318ad4e0e99f8e783f787d6b3e15d71f6e3760d2bba41e69dcc6a4df71", "b1db86f02064a1f881df27e62bdc5594"},
		{repeated(255), 1 << 32, strings.Repeat("\xff", 1000), "a57a77bed8c762afdacd6389e901f69bee4c5b287886c6505592799185d6bc36", "b19427ceff26739187c83a2ed40b2f46"},
		{api.Digest{}, -1 << 62, strings.Repeat(everyByte(), 16), "aa2ed4cfba8d915055102da5c5ce8cdba92c19c48cd4e748ecb959eae31302b3", "5c53bf0d28da1b0d7c518b53e1aa6a7c"},
	} {
		b := Seal(x.key, x.nonce, x.plain)
		h := sha256.Sum256([]byte(b.Cipher))
		if cipher, tag := hex.EncodeToString(h[:]), hex.EncodeToString(b.Tag[:]); b.Nonce != x.nonce || cipher != x.cipher || tag != x.tag {
			t.Errorf("Seal of %x, %d and %d bytes = %d, hash %s, %s, want %s, %s", x.key, x.nonce, len(x.plain), b.Nonce, cipher, tag, x.cipher, x.tag)
		}
		opens(t, x.key, b, x.plain)
	}
}

// P6.1: texts of all kinds.
func TestSealEveryText(t *testing.T) {
	eachSeal(func(key api.Digest, nonce int, plain string) { same(t, key, nonce, plain) })
}

// P6.1: every key with every nonce.
func TestSealEveryNonce(t *testing.T) {
	for _, key := range keys {
		for _, nonce := range nonces {
			same(t, key, nonce, "")
			same(t, key, nonce, random(70, 2))
		}
	}
}

// P6.1: every length up to some blocks of the key stream, and long texts.
func TestSealEveryLength(t *testing.T) {
	for n := range 300 {
		same(t, counting(3), n, random(n, 3))
	}
	for _, n := range []int{8191, 8192, 8193, 1<<20 + 1} {
		same(t, counting(3), -n, random(n, 3))
	}
}

// P6.1: a text of bytes 0 is encrypted as the key stream, one of bytes 255 as its complement.
func TestSealRevealsStream(t *testing.T) {
	for _, key := range keys {
		for i, n := range lengths {
			stream := otherStream(key, nonces[i], n)
			zeros := Seal(key, nonces[i], strings.Repeat("\x00", n)).Cipher
			ones := []byte(Seal(key, nonces[i], strings.Repeat("\xff", n)).Cipher)
			for k := range ones {
				ones[k] = ^ones[k]
			}
			if zeros != string(stream) || !bytes.Equal(ones, stream) {
				t.Errorf("the key stream of %x and %d: %x and %x, want %x", key, nonces[i], zeros, ones, stream)
			}
		}
	}
}

// P6.1: the cipher of an empty string is empty, and its tag authenticates the nonce.
func TestSealEmpty(t *testing.T) {
	for _, key := range keys {
		seen := map[api.Digest]int{}
		for _, nonce := range nonces {
			b := Seal(key, nonce, "")
			if b.Nonce != nonce || b.Cipher != "" || b.Tag != otherTag(key, nonce, "") {
				t.Errorf("Seal of %x, %d and no bytes = %d, %x, %x", key, nonce, b.Nonce, b.Cipher, b.Tag)
			}
			if other, ok := seen[b.Tag]; ok {
				t.Errorf("%x: no bytes have the same tag with the nonces %d and %d", key, nonce, other)
			}
			seen[b.Tag] = nonce
		}
	}
}

// P6.1: no two keys or nonces encrypt a text to the same cipher text, or give it the same tag.
func TestSealDependsOnKeyAndNonce(t *testing.T) {
	ciphers, tags := map[string]bool{}, map[api.Digest]bool{}
	plain := random(48, 4)
	for _, key := range keys {
		for _, nonce := range nonces {
			b := Seal(key, nonce, plain)
			if ciphers[b.Cipher] || tags[b.Tag] {
				t.Errorf("Seal of %x and %d returns the cipher text or the tag of another box", key, nonce)
			}
			ciphers[b.Cipher], tags[b.Tag] = true, true
		}
	}
}

// P6.2: a box opens under no key that differs from its own in a bit, and under no other one.
func TestOpenRefusesOtherKeys(t *testing.T) {
	for _, plain := range []string{"", "a", random(33, 5)} {
		for i, key := range keys {
			b := Seal(key, i-3, plain)
			for bit := range 128 {
				refused(t, flipped(key, bit), b, "a bit of the key is changed")
			}
			for _, other := range keys {
				if other != key {
					refused(t, other, b, "another key")
				}
			}
		}
	}
}

// P6.2: a box opens with no other nonce, whether one bit of it is changed or all.
func TestOpenRefusesOtherNonces(t *testing.T) {
	for _, plain := range []string{"", "a", random(33, 6)} {
		for i, nonce := range nonces {
			key := keys[i%len(keys)]
			b := Seal(key, nonce, plain)
			for bit := range 64 {
				changed := b
				changed.Nonce ^= 1 << bit
				refused(t, key, changed, "a bit of the nonce is changed")
			}
			for _, other := range nonces {
				changed := b
				changed.Nonce = other
				if other != nonce {
					refused(t, key, changed, "another nonce")
				}
			}
		}
	}
}

// P6.2: a box does not open if any bit of its cipher text is changed, or one byte to any other value.
func TestOpenRefusesChangedCipher(t *testing.T) {
	for i, n := range lengths {
		key := keys[i%len(keys)]
		b := Seal(key, nonces[i], random(n, 7))
		for k := range n {
			for bit := range 8 {
				changed := []byte(b.Cipher)
				changed[k] ^= 1 << bit
				refused(t, key, api.Box{Nonce: b.Nonce, Cipher: string(changed), Tag: b.Tag}, "a bit of the cipher text is changed")
			}
		}
	}
	b := Seal(keys[1], 9, random(40, 7))
	for _, k := range []int{0, 20, 39} {
		for c := range 256 {
			changed := []byte(b.Cipher)
			if changed[k] == byte(c) {
				continue
			}
			changed[k] = byte(c)
			refused(t, keys[1], api.Box{Nonce: 9, Cipher: string(changed), Tag: b.Tag}, "a byte of the cipher text is changed")
		}
	}
}

// P6.2: a box does not open if its cipher text is shortened or extended at either end, or is rearranged.
func TestOpenRefusesResizedCipher(t *testing.T) {
	for i, n := range lengths {
		key := keys[i%len(keys)]
		b := Seal(key, nonces[i], random(n, 8))
		var others []string
		for k := 1; k <= n; k++ {
			others = append(others, b.Cipher[k:], b.Cipher[:n-k])
		}
		for _, more := range []string{"\x00", "\x80", "\xff", strings.Repeat("\x00", 32), strings.Repeat("\xff", 64), b.Cipher} {
			if more != "" {
				others = append(others, b.Cipher+more, more+b.Cipher)
			}
		}
		if n > 2 {
			others = append(others, b.Cipher[1:]+b.Cipher[:1], b.Cipher[n/2:]+b.Cipher[:n/2])
		}
		for _, cipher := range others {
			refused(t, key, api.Box{Nonce: b.Nonce, Cipher: cipher, Tag: b.Tag}, "another cipher text")
		}
	}
}

// P6.2: a box does not open if any bit of its tag is changed, or one byte of it to any other value.
func TestOpenRefusesChangedTag(t *testing.T) {
	for i, plain := range []string{"", "a", random(33, 9), random(1000, 9)} {
		b := Seal(keys[i], nonces[i], plain)
		for bit := range 128 {
			refused(t, keys[i], api.Box{Nonce: b.Nonce, Cipher: b.Cipher, Tag: flipped(b.Tag, bit)}, "a bit of the tag is changed")
		}
		for k := range b.Tag {
			for add := 1; add < 256; add++ {
				changed := b
				changed.Tag[k] += byte(add)
				refused(t, keys[i], changed, "a byte of the tag is changed")
			}
			// The bytes up to k are right, those behind it are not, and the other way round.
			front, back := b, b
			for j := range b.Tag {
				if j <= k {
					back.Tag[j]++
				} else {
					front.Tag[j]++
				}
			}
			refused(t, keys[i], back, "the front of the tag is changed")
			if k < 15 {
				refused(t, keys[i], front, "the back of the tag is changed")
			}
		}
		for _, tag := range append([]api.Digest{repeated(255), {}}, keys...) {
			refused(t, keys[i], api.Box{Nonce: b.Nonce, Cipher: b.Cipher, Tag: tag}, "another tag")
		}
	}
}

// P6.2: the zero box, and boxes with a field that is zero.
func TestOpenRefusesZeros(t *testing.T) {
	for _, key := range keys {
		refused(t, key, api.Box{}, "the zero box")
		b := Seal(key, 5, "a secret")
		refused(t, key, api.Box{Cipher: b.Cipher, Tag: b.Tag}, "no nonce")
		refused(t, key, api.Box{Nonce: b.Nonce, Tag: b.Tag}, "no cipher text")
		refused(t, key, api.Box{Nonce: b.Nonce, Cipher: b.Cipher}, "no tag")
		refused(t, key, api.Box{Tag: b.Tag}, "a tag only")
	}
}

// P6.2: the fields of different boxes do not make up a box.
func TestOpenRefusesMixedBoxes(t *testing.T) {
	key := keys[1]
	a, b := Seal(key, 1, "the first secret"), Seal(key, 2, "the other secret")
	refused(t, key, api.Box{Nonce: a.Nonce, Cipher: a.Cipher, Tag: b.Tag}, "the tag of another box")
	refused(t, key, api.Box{Nonce: a.Nonce, Cipher: b.Cipher, Tag: a.Tag}, "the cipher text of another box")
	refused(t, key, api.Box{Nonce: b.Nonce, Cipher: a.Cipher, Tag: a.Tag}, "the nonce of another box")
	refused(t, key, api.Box{Nonce: b.Nonce, Cipher: a.Cipher, Tag: b.Tag}, "another cipher text")
	refused(t, key, api.Box{Nonce: a.Nonce, Cipher: "the first secret", Tag: a.Tag}, "the plain text")
}

// P6.2: codes that are not quite the tag: of other bytes, under other keys, and another part of the hash.
func TestOpenRefusesOtherCodes(t *testing.T) {
	for i, plain := range []string{"", "a", random(33, 10), random(1000, 10)} {
		key, nonce := keys[i], nonces[i+1]
		b := Seal(key, nonce, plain)
		n, c := otherInt(nonce), otherBytes(b.Cipher)
		right := slices.Concat(n, c)
		codes := [][]byte{
			otherHash(authenticateKey(key), right)[16:],
			otherHash(key[:], right),
			otherHash(encryptKey(key, nonce), right),
			otherHash(authenticateKey(flipped(key, 0)), right),
			otherHash(authenticateKey(key), c),
			otherHash(authenticateKey(key), slices.Concat(n, []byte(b.Cipher))),
			otherHash(authenticateKey(key), slices.Concat(c, n)),
			otherHash(authenticateKey(key), slices.Concat(otherBytes(string(n)), c)),
			otherHash(authenticateKey(key), append(slices.Clone(right), 0)),
		}
		if plain != "" {
			codes = append(codes, otherHash(authenticateKey(key), slices.Concat(n, otherBytes(plain))), otherHash(authenticateKey(key), n))
		}
		for _, code := range codes {
			refused(t, key, api.Box{Nonce: nonce, Cipher: b.Cipher, Tag: api.Digest(code[:16])}, "another code")
		}
	}
}

// P6.2 and P6.3: a box that no call of Seal has made opens if its tag is right, to its cipher text xor the key stream.
func TestOpenOtherBoxes(t *testing.T) {
	eachSeal(func(key api.Digest, nonce int, cipher string) {
		b := api.Box{Nonce: nonce, Cipher: cipher, Tag: otherTag(key, nonce, cipher)}
		opens(t, key, b, otherCrypt(key, nonce, cipher))
	})
}

// P6.2: a byte that moves from the nonce's encoding to the cipher text, or back, makes another box.
func TestOpenSeparatesFields(t *testing.T) {
	key := counting(90)
	for _, x := range []struct {
		nonce  int
		cipher string
	}{{0, "\x00"}, {0, "\x02\x00"}, {1, "\x00"}, {1, "\x02"}, {64, "\x01"}, {-65, "\x80\x01"}, {2, "\x02\x04\x02"}} {
		b := api.Box{Nonce: x.nonce, Cipher: x.cipher, Tag: otherTag(key, x.nonce, x.cipher)}
		opens(t, key, b, otherCrypt(key, x.nonce, x.cipher))
		whole := string(slices.Concat(otherInt(x.nonce), otherBytes(x.cipher)))
		for k := range len(whole) + 1 {
			for nonce := range 5 {
				moved := api.Box{Nonce: nonce - 2, Cipher: whole[k:], Tag: b.Tag}
				if moved.Nonce != b.Nonce || moved.Cipher != b.Cipher {
					refused(t, key, moved, "bytes are moved")
				}
			}
		}
	}
}

// P6.3: what is sealed opens again with the same key.
func TestSealedStringsOpen(t *testing.T) {
	eachSeal(func(key api.Digest, nonce int, plain string) { opens(t, key, Seal(key, nonce, plain), plain) })
	for _, key := range keys {
		for _, nonce := range nonces {
			opens(t, key, Seal(key, nonce, "a secret"), "a secret")
		}
	}
	for n := range 300 {
		opens(t, repeated(17), Seal(repeated(17), n, random(n, 11)), random(n, 11))
	}
	long := random(1<<20+1, 11)
	opens(t, repeated(17), Seal(repeated(17), 3, long), long)
}

// P6.3: a box can be the plain text of another one, and sealing twice is not opening.
func TestSealedTwice(t *testing.T) {
	key, plain := keys[1], random(100, 12)
	inner := Seal(key, 6, plain)
	outer := Seal(key, 6, inner.Cipher)
	if outer.Cipher != plain || outer.Tag != otherTag(key, 6, plain) {
		t.Errorf("sealing twice: %x, %x", outer.Cipher, outer.Tag)
	}
	opens(t, key, outer, inner.Cipher)
	refused(t, key, api.Box{Nonce: 6, Cipher: outer.Cipher, Tag: inner.Tag}, "the tag of the inner box")
}

// P6.3: keys, nonces and texts at random; a box opens if and only if its tag is the right one.
func TestRandomBoxes(t *testing.T) {
	r := rand.New(rand.NewSource(13))
	for range 2000 {
		var key api.Digest
		r.Read(key[:])
		nonce := int(r.Uint64()) >> r.Intn(64)
		plain := random(r.Intn(130), r.Int63n(1000))
		same(t, key, nonce, plain)
		b := Seal(key, nonce, plain)
		opens(t, key, b, plain)
		tag := b.Tag
		r.Read(b.Tag[:])
		refused(t, key, b, "a tag at random")
		b.Tag = tag
		cipher := random(r.Intn(130), r.Int63n(1000))
		if b.Cipher != cipher {
			b.Cipher = cipher
			refused(t, key, b, "a cipher text at random")
		}
		b.Tag = otherTag(key, nonce, cipher)
		opens(t, key, b, otherCrypt(key, nonce, cipher))
	}
}

// The section State of DOC.md: a call has the same result whatever other calls there are, at the same time, too.
func TestCallsAreIndependent(t *testing.T) {
	var wait sync.WaitGroup
	for turn := range 8 {
		wait.Go(func() {
			all := texts()
			rand.New(rand.NewSource(int64(turn))).Shuffle(len(all), func(i, j int) { all[i], all[j] = all[j], all[i] })
			for i, plain := range all {
				key, nonce := keys[i%len(keys)], nonces[(i+turn)%len(nonces)]
				b := Seal(key, nonce, plain)
				changed := b
				changed.Tag[i%16]++
				refused(t, key, changed, "the tag is changed")
				opens(t, key, b, plain)
				refused(t, key, api.Box{}, "the zero box")
				opens(t, key, b, plain)
				same(t, key, nonce, plain)
			}
		})
	}
	wait.Wait()
}

// The section Memory of DOC.md: strings that are parts of others give the results of equal ones, and what they are parts of stays as it is.
func TestPartsOfStrings(t *testing.T) {
	whole := random(1200, 14)
	before := strings.Clone(whole)
	for i, n := range lengths {
		key, nonce := keys[i%len(keys)], nonces[i]
		part := whole[i : i+n]
		if got, want := Seal(key, nonce, part), Seal(key, nonce, strings.Clone(part)); got != want {
			t.Errorf("Seal of a part of %d bytes: %v, want %v", n, got, want)
		}
		b := api.Box{Nonce: nonce, Cipher: part, Tag: otherTag(key, nonce, part)}
		opens(t, key, b, otherCrypt(key, nonce, part))
		if whole != before || b.Cipher != before[i:i+n] {
			t.Fatalf("a string of %d bytes is modified", n)
		}
	}
}
