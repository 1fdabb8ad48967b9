package treesig

import (
	"crypto/sha256"
	"encoding/hex"
	"fmt"
	"math"
	"math/rand"
	"slices"
	"testing"

	"bootchain/api"
	"bootchain/merkle"
	"bootchain/wots"
)

// repeated returns the digest whose bytes are all b.
func repeated(b byte) api.Digest {
	var d api.Digest
	for i := range d {
		d[i] = b
	}
	return d
}

// counting returns the digest whose bytes are b, b+1 and so on.
func counting(b byte) api.Digest {
	var d api.Digest
	for i := range d {
		d[i] = b + byte(i)
	}
	return d
}

// randomDigests returns n digests that depend on seed only.
func randomDigests(n int, seed int64) []api.Digest {
	r := rand.New(rand.NewSource(seed))
	l := make([]api.Digest, n)
	for i := range l {
		r.Read(l[i][:])
	}
	return l
}

// flipped returns d with one of its 128 bits changed.
func flipped(d api.Digest, bit int) api.Digest {
	d[bit/8] ^= 1 << (bit % 8)
	return d
}

// hash is sha.Digest of digests, spelt without packages sha and wire: 32 is the encoding of the length of a digest.
func hash(tag byte, parts ...api.Digest) api.Digest {
	b := []byte{tag}
	for _, part := range parts {
		b = append(append(b, 32), part[:]...)
	}
	h := sha256.Sum256(b)
	return api.Digest(h[:16])
}

// hashed returns the first half of the SHA-256 hash of a list of digests, in hexadecimal.
func hashed(l []api.Digest) string {
	var p []byte
	for _, d := range l {
		p = append(p, d[:]...)
	}
	h := sha256.Sum256(p)
	return hex.EncodeToString(h[:16])
}

// oneTimeKeys returns the first n one-time public keys with a seed.
func oneTimeKeys(seed api.Digest, n int) []api.Digest {
	var keys []api.Digest
	for i := range n {
		keys = append(keys, wots.Public(seed, i))
	}
	return keys
}

// leafCount returns the number of one-time keys for a valid height.
func leafCount(height int) int { return []int{1, 2, 4, 8, 16}[height] }

// signature returns a signature of msg with the key of an index, made without Sign.
func signature(seed api.Digest, n, index int, msg api.Digest) api.Signature {
	path, _ := merkle.Prove(oneTimeKeys(seed, n), index)
	return api.Signature{Index: index, Chain: wots.Sign(seed, index, msg), Path: path}
}

// climbed returns the root of the full tree to which a one-time public key and a path lead: bit k of the index tells on which side the element k is.
func climbed(key api.Digest, index int, path []api.Digest) api.Digest {
	d := hash(1, key)
	for k, p := range path {
		if index>>k&1 == 0 {
			d = hash(2, d, p)
		} else {
			d = hash(2, p, d)
		}
	}
	return d
}

// otherVerify is Verify, computed in another way.
func otherVerify(root api.Digest, height int, msg api.Digest, sig api.Signature) bool {
	for valid := range 5 {
		if height != valid || sig.Index < 0 || sig.Index >= leafCount(valid) || len(sig.Chain) != 68 || len(sig.Path) != valid {
			continue
		}
		key, _ := wots.Recover(msg, sig.Chain)
		return climbed(key, sig.Index, sig.Path) == root
	}
	return false
}

// copied returns a signature that shares no memory with sig.
func copied(sig api.Signature) api.Signature {
	return api.Signature{Index: sig.Index, Chain: slices.Clone(sig.Chain), Path: slices.Clone(sig.Path)}
}

// equal reports whether two signatures have the same fields.
func equal(a, b api.Signature) bool {
	return a.Index == b.Index && slices.Equal(a.Chain, b.Chain) && slices.Equal(a.Path, b.Path)
}

// isZero reports whether a signature has nothing in any field.
func isZero(sig api.Signature) bool {
	return sig.Index == 0 && len(sig.Chain) == 0 && len(sig.Path) == 0
}

// badHeights are heights that are not valid, among them those that shift 1 to a negative number, to 0, or to that of a valid height if they are cut to fewer bits.
var badHeights = []int{
	-1, -2, -3, -4, -5, -8, -16, -60, -63, -64, -128, -256, -1 << 31, -1 << 32, -1<<32 + 2, math.MinInt + 2, math.MinInt + 1, math.MinInt,
	5, 6, 7, 8, 15, 16, 30, 31, 32, 33, 61, 62, 63, 64, 65, 66, 127, 128, 129, 255, 256, 257, 258, 1 << 31, 1 << 32, 1<<32 + 1, 1<<32 + 4, math.MaxInt - 1, math.MaxInt,
}

// negative and great are indices that no tree has.
var (
	negative = []int{-1, -2, -3, -4, -8, -15, -16, -17, -64, -256, -1 << 31, -1 << 32, -1<<32 + 1, math.MinInt + 1, math.MinInt}
	great    = []int{16, 17, 31, 32, 33, 64, 128, 256, 257, 1 << 31, 1<<32 - 1, 1 << 32, 1<<32 + 1, 1 << 62, math.MaxInt - 1, math.MaxInt}
)

// messages are messages whose digits are all least, all greatest, and mixed.
func messages() []api.Digest {
	return append([]api.Digest{{}, repeated(255), repeated(0x1b), counting(16), {15: 1}}, randomDigests(2, 1)...)
}

// seeds are seeds of key pairs.
func seeds() []api.Digest {
	return append([]api.Digest{{}, counting(0), repeated(255), {15: 1}}, randomDigests(2, 2)...)
}

// eachKey calls f with each height and each index of its tree.
func eachKey(f func(height, index int)) {
	for height := range 5 {
		for index := range leafCount(height) {
			f(height, index)
		}
	}
}

// P5.1: roots that another implementation, in another language, has computed.
func TestRootVectors(t *testing.T) {
	for _, x := range []struct {
		seed   api.Digest
		height int
		want   string
	}{
		{api.Digest{}, 0, "1acf1aab43c91dabcb3a152712b81f90"},
		{api.Digest{}, 1, "fafed14b76d35eaa19da147d779d496c"},
		{api.Digest{}, 2, "0286cf2d82f7d97e2e46c6b2fa9bcbeb"},
		{api.Digest{}, 3, "5f6a0387edabafc2008d22fed9a8b9d2"},
		{api.Digest{}, 4, "2eb43eccafcfdd01faec10616180a52a"},
		{counting(0), 0, "212787ba06b6c949d35ccb4a493dd13d"},
		{counting(0), 1, "c382d653dc7b958cc8bff16aabe90b74"},
		{counting(0), 2, "ad9501b0a706bc675e8ce97ffe23d38d"},
		{counting(0), 3, "3fb4facfbacc732666e33a6f7efaf491"},
		{counting(0), 4, "4ccbf69bd44fb3eefc6a280a019eead4"},
		{repeated(255), 0, "68bb66948fb8eaa326b6d7d640d0e755"},
		{repeated(255), 1, "bf034bf95b7d3d9588824840e1063bd6"},
		{repeated(255), 2, "5c285681ab37b69b817413f22bbdaa9f"},
		{repeated(255), 3, "46f5d5908c9aa722f63c8b2be24b0ba1"},
		{repeated(255), 4, "ea43c09543cf173369520d4db6559440"},
	} {
		d, err := Root(x.seed, x.height)
		if got := hex.EncodeToString(d[:]); got != x.want || err != api.OK {
			t.Errorf("Root of %x and height %d = %s, %d, want %s", x.seed, x.height, got, err, x.want)
		}
	}
}

// P5.1: the root is that of the tree over the one-time public keys in order, and no two key pairs have the same.
func TestRootOfEveryHeight(t *testing.T) {
	seen := map[api.Digest]bool{}
	for _, seed := range seeds() {
		for height := range 5 {
			got, err := Root(seed, height)
			if want := merkle.Root(oneTimeKeys(seed, leafCount(height))); got != want || err != api.OK {
				t.Errorf("Root of %x and height %d = %x, %d, want %x", seed, height, got, err, want)
			}
			if seen[got] {
				t.Errorf("the root of %x and height %d is that of another key pair", seed, height)
			}
			seen[got] = true
		}
	}
}

// P5.1: a height that is not valid has no root.
func TestRootRefusesHeights(t *testing.T) {
	for _, seed := range seeds() {
		for _, height := range badHeights {
			if got, err := Root(seed, height); got != (api.Digest{}) || err != api.ErrArg {
				t.Errorf("Root of %x and height %d = %x, %d", seed, height, got, err)
			}
		}
	}
}

// P5.2: signatures whose parts another implementation, in another language, has computed and hashed.
func TestSignVectors(t *testing.T) {
	for _, x := range []struct {
		seed          api.Digest
		height, index int
		msg           api.Digest
		chain, path   string
	}{
		{api.Digest{}, 0, 0, api.Digest{}, "4eda92db51455e1562dfb5a84f9842fb", "e3b0c44298fc1c149afbf4c8996fb924"},
		{counting(0), 1, 0, repeated(255), "46da58aeaa32f6a908be90f093aba0de", "f9f67bdcec763d45168f47d8209c0c32"},
		{counting(0), 1, 1, counting(16), "eee4e6b11bf7ca1d2b96e1dd4320364e", "2c21e9cbea8f7dbd3668ad22037888be"},
		{repeated(255), 3, 5, counting(16), "34e57b5f0d92618cd94bbff5dc4660d1", "ae5db508401d11b65f0122fb0d7ee610"},
		{counting(0), 4, 0, counting(16), "a47ec34ccd70a8ee4a7f0632c8b8ff67", "dfcda714e1296cdcf3c86da675907d04"},
		{counting(0), 4, 15, counting(16), "01371e7bda30b293e7c26b4030dcb822", "d4229933bddcc3ef528a515e37628917"},
		{api.Digest{}, 4, 10, repeated(255), "0977214b12182be12d8af392f8aec0ec", "376028aa85813e9b22bf927e6ac82f50"},
	} {
		sig, err := Sign(x.seed, x.height, x.index, x.msg)
		if sig.Index != x.index || hashed(sig.Chain) != x.chain || hashed(sig.Path) != x.path || err != api.OK {
			t.Errorf("Sign with %x, height %d and index %d: %d, %s, %s, %d", x.seed, x.height, x.index, sig.Index, hashed(sig.Chain), hashed(sig.Path), err)
		}
	}
}

// P5.2 and the example of the chapter: the parts of the signatures with every index of every tree.
func TestSignEveryIndex(t *testing.T) {
	all, allSeeds := messages(), seeds()
	eachKey(func(height, index int) {
		for i, msg := range all {
			seed := allSeeds[(i+index)%len(allSeeds)]
			got, err := Sign(seed, height, index, msg)
			if want := signature(seed, leafCount(height), index, msg); !equal(got, want) || err != api.OK {
				t.Errorf("Sign with %x, height %d, index %d of %x = %x, %d, want %x", seed, height, index, msg, got, err, want)
			}
			if len(got.Chain) != 68 || len(got.Path) != height {
				t.Errorf("height %d, index %d: %d and %d elements", height, index, len(got.Chain), len(got.Path))
			}
		}
	})
}

// refusedSign reports an error if Sign does not end with an error and the zero signature.
func refusedSign(t *testing.T, height, index int, want api.Errno) {
	t.Helper()
	for _, msg := range []api.Digest{{}, counting(1)} {
		if sig, err := Sign(counting(2), height, index, msg); !isZero(sig) || err != want {
			t.Errorf("Sign with height %d and index %d = %x, %d, want %d", height, index, sig, err, want)
		}
	}
}

// P5.2: with a height that is not valid, every index is ErrArg: also those that no tree has, and those of its own last keys.
func TestSignRefusesHeights(t *testing.T) {
	indices := slices.Concat([]int{0, 1, 2, 3, 4, 7, 8, 15}, negative, great)
	for _, height := range badHeights {
		for _, index := range indices {
			refusedSign(t, height, index, api.ErrArg)
		}
		if height >= 0 && height < 63 {
			refusedSign(t, height, 1<<height-1, api.ErrArg)
			refusedSign(t, height, 1<<height, api.ErrArg)
		}
	}
}

// P5.2: an index is ErrArg if it is negative, and ErrExhausted from 2^height on.
func TestSignRefusesIndices(t *testing.T) {
	for height := range 5 {
		n := leafCount(height)
		for _, index := range append([]int{-n, -n - 1, -2 * n}, negative...) {
			refusedSign(t, height, index, api.ErrArg)
		}
		for _, index := range append([]int{n, n + 1, 2*n - 1, 2 * n, 2*n + 1, 1<<32 + n - 1}, great...) {
			refusedSign(t, height, index, api.ErrExhausted)
		}
		if _, err := Sign(counting(2), height, n-1, counting(1)); err != api.OK {
			t.Errorf("Sign with height %d and the last index: %d", height, err)
		}
	}
}

// signed is a signature that is valid for its root, height and message.
type signed struct {
	root   api.Digest
	height int
	msg    api.Digest
	sig    api.Signature
}

// samples returns signatures with the keys of some indices of every tree.
func samples() []signed {
	var l []signed
	all, allSeeds := messages(), seeds()
	for height := range 5 {
		n := leafCount(height)
		for i, index := range slices.Compact([]int{0, n / 2, n - 1}) {
			msg, seed := all[(i+height)%len(all)], allSeeds[(2*i+height)%len(allSeeds)]
			l = append(l, signed{merkle.Root(oneTimeKeys(seed, n)), height, msg, signature(seed, n, index, msg)})
		}
	}
	return l
}

// refused reports an error if a signature is accepted.
func refused(t *testing.T, x signed, format string, args ...any) {
	t.Helper()
	if Verify(x.root, x.height, x.msg, x.sig) {
		t.Errorf("height %d, index %d: accepted: %s", x.height, x.sig.Index, fmt.Sprintf(format, args...))
	}
}

// P5.3: signatures with every index of every tree are accepted.
func TestVerifyAccepts(t *testing.T) {
	for i, seed := range seeds() {
		eachKey(func(height, index int) {
			n, msg := leafCount(height), messages()[(i+index)%7]
			if !Verify(merkle.Root(oneTimeKeys(seed, n)), height, msg, signature(seed, n, index, msg)) {
				t.Errorf("the signature of %x by %x with height %d and index %d is refused", msg, seed, height, index)
			}
		})
	}
}

// P5.3: another root, in any bit, and the roots of other key pairs and of parts of the tree are refused.
func TestVerifyRefusesRoots(t *testing.T) {
	var others []api.Digest
	for _, seed := range seeds() {
		for height := range 5 {
			others = append(others, merkle.Root(oneTimeKeys(seed, leafCount(height))))
		}
	}
	for _, x := range samples() {
		y := x
		for bit := range 128 {
			y.root = flipped(x.root, bit)
			refused(t, y, "bit %d of the root is changed", bit)
		}
		key, _ := wots.Recover(x.msg, x.sig.Chain)
		roots := slices.Concat([]api.Digest{{}, key, x.msg, hash(1), hash(1, x.root)}, x.sig.Path, others)
		for k := range x.sig.Path {
			roots = append(roots, climbed(key, x.sig.Index, x.sig.Path[:k]))
		}
		for _, root := range roots {
			if root != x.root {
				y.root = root
				refused(t, y, "the root %x", root)
			}
		}
	}
}

// P5.3: another message, in any bit, is refused.
func TestVerifyRefusesMessages(t *testing.T) {
	for _, x := range samples() {
		y := x
		for bit := range 128 {
			y.msg = flipped(x.msg, bit)
			refused(t, y, "bit %d of the message is changed", bit)
		}
		for _, msg := range messages() {
			if msg != x.msg {
				y.msg = msg
				refused(t, y, "the message %x", msg)
			}
		}
	}
}

// P5.3: every other height is refused, with the path of the signature and with one that has as many elements as the height says.
func TestVerifyRefusesHeights(t *testing.T) {
	extra := randomDigests(70, 3)
	for _, x := range samples() {
		for _, height := range append([]int{0, 1, 2, 3, 4}, badHeights...) {
			if height == x.height {
				continue
			}
			y := x
			y.height = height
			refused(t, y, "the height is %d", x.height)
			if height >= 0 && height <= 70 {
				y.sig.Path = slices.Concat(x.sig.Path, extra)[:height]
				refused(t, y, "the height is %d, and the path has %d elements", x.height, height)
			}
		}
	}
}

// P5.3: a height that is not valid is refused even if the signature fits the tree of that height.
func TestVerifyRefusesGreatTrees(t *testing.T) {
	seed, msg := counting(3), counting(4)
	keys := oneTimeKeys(seed, 32)
	for _, index := range []int{0, 15, 16, 31} {
		x := signed{merkle.Root(keys), 5, msg, signature(seed, 32, index, msg)}
		refused(t, x, "a tree with 32 keys")
	}
	extra := randomDigests(70, 4)
	for height := 5; height <= 66; height++ {
		for _, index := range []int{0, 1, 15} {
			x := signed{climbed(keys[index], index, extra[:height]), height, msg, api.Signature{Index: index, Chain: wots.Sign(seed, index, msg), Path: extra[:height]}}
			if height < 63 && !merkle.Verify(x.root, 1<<height, index, keys[index], x.sig.Path) {
				t.Errorf("height %d, index %d: the path is not that of the tree", height, index)
			}
			refused(t, x, "a tree that is too high")
		}
	}
	for _, height := range badHeights {
		for _, root := range []api.Digest{{}, hash(1), hash(1, keys[0])} {
			refused(t, signed{root, height, msg, api.Signature{Chain: wots.Sign(seed, 0, msg)}}, "the height is not valid")
		}
	}
}

// P5.3: every other index is refused, whether the tree has it or not.
func TestVerifyRefusesIndices(t *testing.T) {
	for _, x := range samples() {
		n, index := leafCount(x.height), x.sig.Index
		others := slices.Concat(negative, great, []int{n, n + 1, index + n, index - n, index + 2*n, index + 1<<32, ^index, -index - 1, index + math.MinInt})
		for i := range n {
			others = append(others, i)
		}
		for _, i := range others {
			if i != index {
				y := x
				y.sig.Index = i
				refused(t, y, "the index was %d", index)
			}
		}
	}
}

// P5.3: an index outside the tree is refused even if it is that of the one-time key whose tree has the root.
func TestVerifyRefusesOutside(t *testing.T) {
	seed, msg, extra := counting(5), counting(6), randomDigests(4, 5)
	for height := range 5 {
		n := leafCount(height)
		for _, index := range slices.Concat(negative, great, []int{n, n + 1, 2*n - 1, 2 * n}) {
			if index >= 0 && index < n {
				continue
			}
			path := extra[:height]
			key := wots.Public(seed, index)
			for _, at := range []int{index, index & (n - 1)} {
				x := signed{climbed(key, at, path), height, msg, api.Signature{Index: index, Chain: wots.Sign(seed, index, msg), Path: path}}
				refused(t, x, "the root was combined for index %d", at)
			}
		}
	}
}

// P5.3: a signature with one key is refused at the index of any other key of the same tree, even with the path of that key.
func TestVerifyRefusesOtherKeys(t *testing.T) {
	seed, msg := counting(7), counting(8)
	for height := range 4 {
		n := leafCount(height)
		root := merkle.Root(oneTimeKeys(seed, n))
		for i := range n {
			for j := range n {
				x := signed{root, height, msg, signature(seed, n, i, msg)}
				x.sig.Chain = wots.Sign(seed, j, msg)
				if i != j {
					refused(t, x, "the key has the index %d", j)
				}
			}
		}
	}
}

// P5.3: a chain that has not just 68 elements is refused.
func TestVerifyRefusesChainLengths(t *testing.T) {
	for _, x := range samples() {
		s := x.sig.Chain
		long := slices.Concat(s, s, s)
		chains := [][]api.Digest{nil, {}, s[1:], append([]api.Digest{{}}, s...), append(slices.Clone(s), api.Digest{}), x.sig.Path, make([]api.Digest, 10000)}
		for _, n := range []int{0, 1, 4, 34, 64, 66, 67, 69, 70, 72, 136, 204} {
			chains = append(chains, long[:n])
		}
		for k := range s {
			chains = append(chains, slices.Delete(slices.Clone(s), k, k+1), slices.Insert(slices.Clone(s), k, s[k]))
		}
		for _, chain := range chains {
			y := x
			y.sig.Chain = chain
			refused(t, y, "%d elements", len(chain))
			// Recover has no key for such a chain: a tree whose leaf is the zero digest must not be one for it.
			y.root = climbed(api.Digest{}, y.sig.Index, y.sig.Path)
			refused(t, y, "%d elements, and the leaf of the tree is the zero digest", len(chain))
		}
	}
}

// P5.3: a chain in which an element is changed, or two are swapped, is refused.
func TestVerifyRefusesChains(t *testing.T) {
	for i, x := range samples() {
		for k := range 68 {
			y := signed{x.root, x.height, x.msg, copied(x.sig)}
			y.sig.Chain[k] = flipped(x.sig.Chain[k], (17*k+i)%128)
			refused(t, y, "element %d is changed", k)
			y.sig.Chain[k] = api.Digest{}
			refused(t, y, "element %d is zero", k)
			y.sig.Chain[k] = x.sig.Chain[(k+1)%68]
			refused(t, y, "element %d is the next one", k)
			y.sig.Chain[(k+1)%68] = x.sig.Chain[k]
			refused(t, y, "element %d and the next one are swapped", k)
		}
	}
}

// P5.3: a path that has more or fewer elements than the height says is refused.
func TestVerifyRefusesPathLengths(t *testing.T) {
	for _, x := range samples() {
		p := x.sig.Path
		paths := [][]api.Digest{
			append([]api.Digest{{}}, p...), append(slices.Clone(p), api.Digest{}), append(slices.Clone(p), x.root), slices.Concat(p, []api.Digest{{}}, p),
			randomDigests(x.height+1, 6), make([]api.Digest, 5), make([]api.Digest, 64), make([]api.Digest, 10000), x.sig.Chain,
		}
		if x.height > 0 {
			paths = append(paths, nil, []api.Digest{})
		}
		for k := range p {
			paths = append(paths, p[:k], p[k+1:], slices.Delete(slices.Clone(p), k, k+1), slices.Insert(slices.Clone(p), k, p[k]))
		}
		key, _ := wots.Recover(x.msg, x.sig.Chain)
		for _, path := range paths {
			y := x
			y.sig.Path = path
			refused(t, y, "a path of %d elements", len(path))
			if len(path) < 63 {
				y.root = climbed(key, y.sig.Index, path)
				refused(t, y, "a path of %d elements that leads to the root", len(path))
			}
		}
	}
}

// P5.3: a path in which an element is changed in any bit, or two are swapped, is refused.
func TestVerifyRefusesPaths(t *testing.T) {
	for _, x := range samples() {
		for k, d := range x.sig.Path {
			y := signed{x.root, x.height, x.msg, copied(x.sig)}
			for bit := range 128 {
				y.sig.Path[k] = flipped(d, bit)
				refused(t, y, "bit %d of element %d of the path is changed", bit, k)
			}
			y.sig.Path[k] = api.Digest{}
			refused(t, y, "element %d of the path is zero", k)
			if k > 0 {
				y.sig.Path[k], y.sig.Path[k-1] = x.sig.Path[k-1], d
				refused(t, y, "element %d of the path and the one before are swapped", k)
			}
		}
	}
}

// P5.3: a path without elements, missing or empty, is just that of a tree with one key.
func TestVerifyEmptyPath(t *testing.T) {
	seed, msg := counting(9), counting(10)
	for _, path := range [][]api.Digest{nil, {}, make([]api.Digest, 0, 4)} {
		for _, height := range append([]int{0, 1, 2, 3, 4}, badHeights...) {
			x := signed{hash(1, wots.Public(seed, 0)), height, msg, api.Signature{Chain: wots.Sign(seed, 0, msg), Path: path}}
			if Verify(x.root, height, msg, x.sig) != (height == 0) {
				t.Errorf("an empty path with height %d", height)
			}
		}
	}
}

// P5.3: all kinds of chains and paths are accepted under just the root to which they lead, even if no key pair has made them.
func TestVerifyAnyArguments(t *testing.T) {
	r := rand.New(rand.NewSource(7))
	accepted := 0
	for range 3000 {
		d := randomDigests(80, r.Int63())
		height, index := r.Intn(8)-1, r.Intn(20)-2
		chain, path := d[:68], d[70:70+r.Intn(6)]
		if r.Intn(5) == 0 {
			chain = d[:67+2*r.Intn(2)]
		}
		if r.Intn(5) > 0 && height >= 0 {
			path = d[70 : 70+height]
		}
		sig := api.Signature{Index: index, Chain: chain, Path: path}
		key, _ := wots.Recover(d[79], chain)
		root := climbed(key, index, path)
		got := Verify(root, height, d[79], sig)
		if got != otherVerify(root, height, d[79], sig) {
			t.Errorf("height %d, index %d, %d and %d elements: %t", height, index, len(chain), len(path), got)
		}
		if got {
			accepted++
		}
		if Verify(d[78], height, d[79], sig) {
			t.Errorf("height %d, index %d: another root is accepted", height, index)
		}
	}
	if accepted < 300 {
		t.Errorf("only %d of the signatures are accepted", accepted)
	}
}

// P5.3: part of a signature is one in the tree over part of the keys, since that tree is one of a lesser height.
func TestVerifySubtrees(t *testing.T) {
	seed, msg := counting(11), counting(12)
	keys := oneTimeKeys(seed, 16)
	for index := range keys {
		sig := signature(seed, 16, index, msg)
		for height := range 5 {
			n := leafCount(height)
			part := keys[index/n*n:][:n]
			low := api.Signature{Index: index % n, Chain: sig.Chain, Path: sig.Path[:height]}
			if !Verify(merkle.Root(part), height, msg, low) {
				t.Errorf("index %d: refused in the tree of height %d", index, height)
			}
		}
	}
}

// P5.4: signatures that differ in one field only are not the same; those that do not differ are.
func TestSame(t *testing.T) {
	d := randomDigests(200, 8)
	zero := api.Digest{}
	plain := api.Signature{Index: 3, Chain: d[:68], Path: d[100:104]}
	different := []api.Signature{
		plain,
		{Index: 2, Chain: d[:68], Path: d[100:104]},
		{Index: -3, Chain: d[:68], Path: d[100:104]},
		{Index: 3 + 1<<32, Chain: d[:68], Path: d[100:104]},
		{Index: 3 + 256, Chain: d[:68], Path: d[100:104]},
		{Index: 3 + math.MinInt, Chain: d[:68], Path: d[100:104]},
		{Index: math.MaxInt, Chain: d[:68], Path: d[100:104]},
		{Index: 3, Chain: d[:67], Path: d[100:104]},
		{Index: 3, Chain: d[:69], Path: d[100:104]},
		{Index: 3, Chain: d[1:69], Path: d[100:104]},
		{Index: 3, Chain: append(slices.Clone(d[:68]), zero), Path: d[100:104]},
		{Index: 3, Chain: append([]api.Digest{zero}, d[:68]...), Path: d[100:104]},
		{Index: 3, Chain: nil, Path: d[100:104]},
		{Index: 3, Chain: []api.Digest{zero}, Path: d[100:104]},
		{Index: 3, Chain: d[:68], Path: d[100:103]},
		{Index: 3, Chain: d[:68], Path: d[100:105]},
		{Index: 3, Chain: d[:68], Path: d[101:105]},
		{Index: 3, Chain: d[:68], Path: append(slices.Clone(d[100:104]), zero)},
		{Index: 3, Chain: d[:68], Path: nil},
		{Index: 3, Chain: d[:68], Path: []api.Digest{zero}},
		{Index: 3, Chain: d[100:104], Path: d[:68]},
		{Index: 3, Chain: append(slices.Clone(d[:68]), d[100]), Path: d[101:104]},
		{Index: 3, Chain: d[100:104], Path: d[100:104]},
		{Index: 3, Chain: d[:68], Path: d[:68]},
		{Index: 3},
		{Index: 3, Chain: []api.Digest{zero}},
		{Index: 3, Path: []api.Digest{zero}},
		{},
		{Index: -1},
		{Index: 1},
	}
	for i, a := range different {
		for j, b := range different {
			if Same(a, copied(b)) != (i == j) {
				t.Errorf("Same of the signatures %d and %d: %t", i, j, i != j)
			}
		}
	}
}

// P5.4: each bit of each element counts.
func TestSameElements(t *testing.T) {
	for _, x := range samples() {
		y := copied(x.sig)
		for _, l := range [][]api.Digest{y.Chain, y.Path} {
			for k, d := range l {
				for bit := range 128 {
					l[k] = flipped(d, bit)
					if Same(x.sig, y) || Same(y, x.sig) {
						t.Errorf("bit %d of element %d of %d does not count", bit, k, len(l))
					}
				}
				l[k] = d
			}
		}
		if !Same(x.sig, x.sig) || !Same(x.sig, copied(x.sig)) {
			t.Error("a signature is not the same as itself")
		}
	}
}

// P5.4: an empty list equals a missing one, and what lies behind a list does not count.
func TestSameEmptyLists(t *testing.T) {
	d := randomDigests(80, 9)
	for _, a := range [][]api.Digest{nil, {}, d[:0], d[5:5]} {
		for _, b := range [][]api.Digest{nil, {}, d[:0], d[7:7]} {
			if !Same(api.Signature{Index: 7, Chain: a, Path: b}, api.Signature{Index: 7, Chain: b, Path: a}) {
				t.Error("empty lists differ")
			}
			if Same(api.Signature{Index: 7, Chain: a, Path: b}, api.Signature{Index: 8, Chain: b, Path: a}) {
				t.Error("with empty lists, the index does not count")
			}
			if !Same(api.Signature{Chain: d[:68], Path: a}, api.Signature{Chain: slices.Clone(d[:68]), Path: b}) || !Same(api.Signature{Chain: a, Path: d[:4]}, api.Signature{Chain: b, Path: slices.Clone(d[:4])}) {
				t.Error("empty lists beside others differ")
			}
		}
	}
}

// P5.5: what Sign returns verifies under what Root returns for the same key pair, and under the root of no other one.
func TestSignaturesVerify(t *testing.T) {
	all := seeds()
	eachKey(func(height, index int) {
		for i, seed := range all {
			msg := messages()[(i+index)%7]
			sig, signErr := Sign(seed, height, index, msg)
			root, rootErr := Root(seed, height)
			if !Verify(root, height, msg, sig) || signErr != api.OK || rootErr != api.OK {
				t.Errorf("the signature of %x by %x with height %d and index %d is refused: %d, %d", msg, seed, height, index, signErr, rootErr)
			}
			other, _ := Root(all[(i+1)%len(all)], height)
			above, _ := Root(seed, (height+1)%5)
			if Verify(other, height, msg, sig) || Verify(above, height, msg, sig) || Verify(above, (height+1)%5, msg, sig) {
				t.Errorf("height %d, index %d: accepted for another key pair", height, index)
			}
		}
	})
}

// P5.5: seeds, heights, indices and messages at random.
func TestRandomSignaturesVerify(t *testing.T) {
	r := rand.New(rand.NewSource(10))
	for range 100 {
		d := randomDigests(2, r.Int63())
		height := r.Intn(5)
		index := r.Intn(leafCount(height))
		sig, _ := Sign(d[0], height, index, d[1])
		if root, _ := Root(d[0], height); !Verify(root, height, d[1], sig) {
			t.Errorf("the signature of %x by %x with height %d and index %d is refused", d[1], d[0], height, index)
		}
	}
}

// P5.5: whether a signature verifies depends neither on earlier calls nor on the memory in which it lies.
func TestVerifyDependsOnArgumentsOnly(t *testing.T) {
	all := samples()
	for i, x := range all {
		for j, y := range all {
			first, second := Verify(x.root, x.height, x.msg, y.sig), Verify(x.root, x.height, x.msg, copied(y.sig))
			if first != (i == j) || second != first {
				t.Errorf("signature %d for the root and message %d: %t and %t", j, i, first, second)
			}
		}
		roomy := api.Signature{Index: x.sig.Index, Chain: append(x.sig.Chain, randomDigests(9, 11)...)[:68], Path: append(x.sig.Path, randomDigests(9, 12)...)[:x.height]}
		if !Verify(x.root, x.height, x.msg, roomy) || !Same(roomy, x.sig) {
			t.Errorf("signature %d: what lies behind its lists counts", i)
		}
	}
}

// The section Memory of DOC.md: signatures are not modified, nor is what lies behind their lists.
func TestArgumentsAreNotModified(t *testing.T) {
	for _, x := range samples() {
		chain, path := slices.Concat(x.sig.Chain, randomDigests(9, 13)), slices.Concat(x.sig.Path, randomDigests(9, 14))
		chainBefore, pathBefore := slices.Clone(chain), slices.Clone(path)
		for _, n := range []int{0, 67, 68, 69, len(chain)} {
			for m := range path {
				sig := api.Signature{Index: x.sig.Index, Chain: chain[:n], Path: path[:m]}
				for _, height := range []int{-1, x.height, m, 5} {
					Verify(x.root, height, x.msg, sig)
				}
				Same(sig, x.sig)
				Same(x.sig, sig)
				Same(sig, sig)
			}
		}
		if !slices.Equal(chain, chainBefore) || !slices.Equal(path, pathBefore) {
			t.Errorf("height %d, index %d: a signature was changed", x.height, x.sig.Index)
		}
	}
}

// The sections Memory and State of DOC.md: results are the same in every call and share no memory with anything.
func TestCallsAreIndependent(t *testing.T) {
	seed, msg := counting(13), counting(14)
	eachKey(func(height, index int) {
		root, _ := Root(seed, height)
		sig, _ := Sign(seed, height, index, msg)
		kept := copied(sig)
		clear(sig.Chain[:cap(sig.Chain)])
		if !slices.Equal(sig.Path, kept.Path) {
			t.Errorf("height %d, index %d: the path shares memory with the chain", height, index)
		}
		clear(sig.Path[:cap(sig.Path)])
		again, err := Sign(seed, height, index, msg)
		rootAgain, _ := Root(seed, height)
		if !equal(again, kept) || err != api.OK || rootAgain != root {
			t.Errorf("height %d, index %d: second calls have other results", height, index)
		}
	})
}

// The keys are yielded in order, for as long as they are asked for.
func TestPublicKeys(t *testing.T) {
	seed := counting(15)
	want := oneTimeKeys(seed, 16)
	for height := range 5 {
		for n := 1; n <= leafCount(height); n++ {
			var got []api.Digest
			for key := range publicKeys(seed, height) {
				got = append(got, key)
				if len(got) == n {
					break
				}
			}
			if !slices.Equal(got, want[:n]) {
				t.Errorf("height %d: the first %d keys are %x", height, n, got)
			}
		}
		if n := len(slices.Collect(publicKeys(seed, height))); n != leafCount(height) {
			t.Errorf("height %d: %d keys", height, n)
		}
	}
}
