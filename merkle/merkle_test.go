package merkle

import (
	"crypto/sha256"
	"encoding/hex"
	"math"
	"math/rand"
	"slices"
	"testing"

	"bootchain/api"
)

// hash is H of the chapter, spelt without packages sha and wire: 32 is the encoding of the length of a digest.
func hash(tag byte, parts ...api.Digest) api.Digest {
	b := []byte{tag}
	for _, part := range parts {
		b = append(append(b, 32), part[:]...)
	}
	h := sha256.Sum256(b)
	return api.Digest(h[:api.DigestSize])
}

func leafHash(d api.Digest) api.Digest { return hash(1, d) }

func nodeHash(left, right api.Digest) api.Digest { return hash(2, left, right) }

// digests returns n different digests.
func digests(n int, seed int64) []api.Digest {
	r := rand.New(rand.NewSource(seed))
	l := make([]api.Digest, n)
	for i := range l {
		r.Read(l[i][:])
	}
	return l
}

// level returns the digests of the trees over pairs of neighbors; one that is left over rises unchanged.
func level(l []api.Digest) []api.Digest {
	var out []api.Digest
	for pair := range slices.Chunk(l, 2) {
		if len(pair) == 2 {
			out = append(out, nodeHash(pair[0], pair[1]))
		} else {
			out = append(out, pair[0])
		}
	}
	return out
}

// leafHashes returns the digests of the trees over each leaf.
func leafHashes(leaves []api.Digest) []api.Digest {
	var l []api.Digest
	for _, d := range leaves {
		l = append(l, leafHash(d))
	}
	return l
}

// otherRoot computes a root level by level, from the leaves upwards.
func otherRoot(leaves []api.Digest) api.Digest {
	if len(leaves) == 0 {
		return hash(1)
	}
	l := leafHashes(leaves)
	for len(l) > 1 {
		l = level(l)
	}
	return l[0]
}

// otherProof computes a proof level by level.
func otherProof(leaves []api.Digest, i int) []api.Digest {
	var proof []api.Digest
	for l := leafHashes(leaves); len(l) > 1; l = level(l) {
		if i^1 < len(l) {
			proof = append(proof, l[i^1])
		}
		i /= 2
	}
	return proof
}

// combined combines a leaf with a proof as RFC 9162 does in its section 2.1.3.2, and reports whether the proof has the length of the path.
func combined(n, i int, leaf api.Digest, proof []api.Digest) (api.Digest, bool) {
	at, last := i, n-1
	d := leafHash(leaf)
	for _, p := range proof {
		if last == 0 {
			return api.Digest{}, false
		}
		if at%2 == 0 && at != last {
			d = nodeHash(d, p)
		} else {
			d = nodeHash(p, d)
			for at%2 == 0 && at != 0 {
				at, last = at/2, last/2
			}
		}
		at, last = at/2, last/2
	}
	return d, last == 0
}

// otherVerify is Verify, computed in another way.
func otherVerify(root api.Digest, n, i int, leaf api.Digest, proof []api.Digest) bool {
	if i < 0 || i >= n {
		return false
	}
	d, ok := combined(n, i, leaf, proof)
	return ok && d == root
}

// pathLength returns the length of the path of index i in the tree over n leaves.
func pathLength(t *testing.T, n, i int) int {
	t.Helper()
	for size := range 65 {
		if _, ok := combined(n, i, api.Digest{}, make([]api.Digest, size)); ok {
			return size
		}
	}
	t.Fatalf("no length of the path of index %d in the tree over %d leaves", i, n)
	return 0
}

// sizes are numbers of leaves at both sides of powers of two, and others.
var sizes = []int{1, 2, 3, 4, 5, 6, 7, 8, 9, 10, 11, 12, 13, 14, 15, 16, 17, 21, 31, 32, 33, 63, 64, 65, 100}

// P3.1: roots that a program in another language computed; leaf i consists of the bytes i+1.
func TestRootVectors(t *testing.T) {
	var leaves []api.Digest
	for i := range 129 {
		var d api.Digest
		for k := range d {
			d[k] = byte(i + 1)
		}
		leaves = append(leaves, d)
	}
	for _, x := range []struct {
		n    int
		want string
	}{
		{0, "4bf5122f344554c53bde2ebb8cd2b7e3"},
		{1, "aaaa3911efc139ab438f0b90798fa9aa"},
		{2, "b433994277454df6b1eb7bf28f198e05"},
		{3, "d6e9c06aadc3cfa5cbf21984e7b8eb4d"},
		{4, "25a79e6ad187fb9ea5f1958e42ac3b54"},
		{5, "7e87d7bbb19e6651c9bac4cfe3ba284f"},
		{6, "e14a2389fe11603938a23791fcf4cc68"},
		{7, "b8755d0632b02ee403499b9cb4568818"},
		{8, "b12bb95b6cfaa260ccd04c18396dc913"},
		{9, "44e38d10cf935031c5b2138aae154028"},
		{16, "b4fa7f101c884652d299a406a3c25a75"},
		{17, "3b6a484d27dd44fbe87296d79c345a32"},
		{100, "e5809a0f73a7475c18768ca5d1cd8925"},
		{128, "e41223b47ca2357f84db377f6d96f52f"},
		{129, "4fea239c6cfd926bde41680dad67296f"},
	} {
		d := Root(leaves[:x.n])
		if got := hex.EncodeToString(d[:]); got != x.want {
			t.Errorf("Root of %d leaves = %s, want %s", x.n, got, x.want)
		}
	}
}

// P3.1: the roots of no leaf, of one, and of as many as make every shape of a small tree.
func TestRootShapes(t *testing.T) {
	d := digests(5, 1)
	a, b, c, e, f := leafHash(d[0]), leafHash(d[1]), leafHash(d[2]), leafHash(d[3]), leafHash(d[4])
	for n, want := range []api.Digest{
		hash(1),
		a,
		nodeHash(a, b),
		nodeHash(nodeHash(a, b), c),
		nodeHash(nodeHash(a, b), nodeHash(c, e)),
		nodeHash(nodeHash(nodeHash(a, b), nodeHash(c, e)), f),
	} {
		if got := Root(d[:n]); got != want {
			t.Errorf("Root of %d leaves = %x, want %x", n, got, want)
		}
	}
	if Root(nil) != hash(1) || Root([]api.Digest{}) != hash(1) {
		t.Error("the root of no leaves")
	}
}

// P3.1: the roots of all small numbers of leaves and of some great ones, of different and of equal leaves.
func TestRootOfEverySize(t *testing.T) {
	try := func(leaves []api.Digest) {
		t.Helper()
		if got, want := Root(leaves), otherRoot(leaves); got != want {
			t.Errorf("Root of %d leaves = %x, want %x", len(leaves), got, want)
		}
	}
	for n := range 200 {
		try(digests(n, 2))
		try(make([]api.Digest, n))
	}
	for _, n := range []int{255, 256, 257, 511, 512, 513, 1000, 4095, 4096, 4097} {
		try(digests(n, 3))
	}
}

// P3.2: the examples of proofs in small trees.
func TestProveShapes(t *testing.T) {
	d := digests(5, 4)
	a, b, c, e, f := leafHash(d[0]), leafHash(d[1]), leafHash(d[2]), leafHash(d[3]), leafHash(d[4])
	ab, ce := nodeHash(a, b), nodeHash(c, e)
	for _, x := range []struct {
		n, i int
		want []api.Digest
	}{
		{1, 0, nil},
		{2, 0, []api.Digest{b}},
		{2, 1, []api.Digest{a}},
		{3, 0, []api.Digest{b, c}},
		{3, 1, []api.Digest{a, c}},
		{3, 2, []api.Digest{ab}},
		{4, 0, []api.Digest{b, ce}},
		{4, 3, []api.Digest{c, ab}},
		{5, 0, []api.Digest{b, ce, f}},
		{5, 2, []api.Digest{e, ab, f}},
		{5, 4, []api.Digest{nodeHash(ab, ce)}},
	} {
		if got, err := Prove(d[:x.n], x.i); err != api.OK || !slices.Equal(got, x.want) {
			t.Errorf("Prove of index %d of %d leaves = %x, %d, want %x", x.i, x.n, got, err, x.want)
		}
	}
}

// P3.2: the proofs of every index.
func TestProveEveryIndex(t *testing.T) {
	try := func(leaves []api.Digest, i int) {
		t.Helper()
		got, err := Prove(leaves, i)
		if want := otherProof(leaves, i); err != api.OK || !slices.Equal(got, want) {
			t.Errorf("Prove of index %d of %d leaves = %x, %d, want %x", i, len(leaves), got, err, want)
		}
	}
	for _, n := range sizes {
		leaves := digests(n, 5)
		equal := make([]api.Digest, n)
		for i := range n {
			try(leaves, i)
			try(equal, i)
		}
	}
	for _, n := range []int{511, 512, 513, 4095, 4096, 4097} {
		leaves := digests(n, 6)
		for _, i := range []int{0, 1, 255, 256, n / 2, n - 2, n - 1} {
			try(leaves, i)
		}
	}
}

// P3.2: an index without a leaf has no proof.
func TestProveRefusesIndices(t *testing.T) {
	for _, n := range append([]int{0}, sizes...) {
		// The room behind the leaves must not count.
		leaves := digests(n+3, 7)[:n]
		for _, i := range []int{-1, -2, -n, -n - 1, n, n + 1, n + 2, 2*n + 1, math.MinInt, math.MinInt + 1, math.MaxInt - 1, math.MaxInt} {
			if got, err := Prove(leaves, i); got != nil || err != api.ErrArg {
				t.Errorf("Prove of index %d of %d leaves = %x, %d", i, n, got, err)
			}
		}
	}
	if got, err := Prove(nil, 0); got != nil || err != api.ErrArg {
		t.Errorf("Prove of nil = %x, %d", got, err)
	}
}

// P3.3: for every proof, Verify accepts just those numbers of leaves and indices for which it combines to the root.
func TestVerifyEverySizeAndIndex(t *testing.T) {
	leaves := digests(18, 9)
	for n := 1; n <= len(leaves); n++ {
		root := Root(leaves[:n])
		for i := range n {
			proof := otherProof(leaves[:n], i)
			if !Verify(root, n, i, leaves[i], proof) {
				t.Errorf("the proof of index %d of %d leaves does not verify", i, n)
			}
			for m := -2; m <= len(leaves)+2; m++ {
				for k := -2; k <= len(leaves)+2; k++ {
					if got, want := Verify(root, m, k, leaves[i], proof), otherVerify(root, m, k, leaves[i], proof); got != want {
						t.Errorf("the proof of index %d of %d leaves, verified for index %d of %d: %t", i, n, k, m, got)
					}
				}
			}
		}
	}
}

// P3.3: no proof verifies for an index out of range or for a tree without leaves, even if what it combines to is the root.
func TestVerifyRefusesIndices(t *testing.T) {
	leaves := digests(4, 10)
	whole := Root(leaves)
	extremes := []int{math.MinInt, math.MinInt + 1, math.MinInt / 2, -1 << 32, -5, -4, -3, -2, -1, 0, 1, 2, 3, 4, 5, 1 << 32, math.MaxInt / 2, math.MaxInt - 1, math.MaxInt}
	for _, n := range extremes {
		for _, i := range extremes {
			if i >= 0 && i < n {
				continue
			}
			if Verify(leafHash(leaves[0]), n, i, leaves[0], nil) || Verify(hash(1), n, i, leaves[0], nil) || Verify(hash(1), n, i, api.Digest{}, nil) {
				t.Errorf("an empty proof verifies for index %d of %d leaves", i, n)
			}
			for k := range leaves {
				if Verify(whole, n, i, leaves[k], otherProof(leaves, k)) {
					t.Errorf("the proof of index %d verifies for index %d of %d leaves", k, i, n)
				}
			}
		}
	}
}

// P3.3: a proof that is longer or shorter than the path does not verify, even if what it combines to is the root.
func TestVerifyRefusesLengths(t *testing.T) {
	extra := digests(70, 11)
	for _, n := range sizes {
		leaves := digests(n, 12)
		root := Root(leaves)
		for i := range n {
			proof := otherProof(leaves, i)
			for k := range proof {
				short := proof[:k]
				if Verify(root, n, i, leaves[i], short) || Verify(root, n, i, leaves[i], proof[k+1:]) || Verify(root, n, i, leaves[i], slices.Delete(slices.Clone(proof), k, k+1)) {
					t.Errorf("index %d of %d leaves: a short proof verifies", i, n)
				}
				below := leafHash(leaves[i])
				for j := range short {
					below = nodeHash(below, short[j])
					if Verify(below, n, i, leaves[i], short[:j+1]) {
						t.Errorf("index %d of %d leaves: a proof of %d elements verifies", i, n, j+1)
					}
				}
				if Verify(leafHash(leaves[i]), n, i, leaves[i], nil) {
					t.Errorf("index %d of %d leaves: the leaf is its own root", i, n)
				}
			}
			for _, k := range []int{1, 2, 64, 70} {
				long := slices.Concat(proof, extra[:k])
				if Verify(root, n, i, leaves[i], long) || Verify(root, n, i, leaves[i], slices.Concat(extra[:k], proof)) {
					t.Errorf("index %d of %d leaves: a proof with %d more elements verifies", i, n, k)
				}
			}
			if Verify(nodeHash(root, extra[0]), n, i, leaves[i], slices.Concat(proof, extra[:1])) || Verify(nodeHash(extra[0], root), n, i, leaves[i], slices.Concat(proof, extra[:1])) {
				t.Errorf("index %d of %d leaves: the proof of a tree above verifies", i, n)
			}
		}
	}
}

// flips calls f with each digest that differs from d in one bit.
func flips(d api.Digest, f func(changed api.Digest)) {
	for k := range 8 * api.DigestSize {
		changed := d
		changed[k/8] ^= 1 << (k % 8)
		f(changed)
	}
}

// P3.3 and P3.4: with any bit of the root, the leaf or the proof changed, a proof does not verify.
func TestVerifyRefusesChanges(t *testing.T) {
	for _, n := range []int{1, 2, 3, 4, 5, 7, 8, 9, 13} {
		leaves := digests(n, 13)
		root := Root(leaves)
		for i, leaf := range leaves {
			proof := otherProof(leaves, i)
			flips(root, func(d api.Digest) {
				if Verify(d, n, i, leaf, proof) {
					t.Errorf("index %d of %d leaves: a changed root is accepted", i, n)
				}
			})
			flips(leaf, func(d api.Digest) {
				if Verify(root, n, i, d, proof) {
					t.Errorf("index %d of %d leaves: a changed leaf is accepted", i, n)
				}
			})
			for k := range proof {
				flips(proof[k], func(d api.Digest) {
					changed := slices.Clone(proof)
					changed[k] = d
					if Verify(root, n, i, leaf, changed) {
						t.Errorf("index %d of %d leaves: a proof is accepted whose element %d is changed", i, n, k)
					}
				})
			}
		}
	}
}

// P3.3: the order of the elements counts, and so does the side on which each of them is combined.
func TestVerifyRefusesOrderAndSides(t *testing.T) {
	leaves := digests(13, 14)
	n := len(leaves)
	root := Root(leaves)
	for i, leaf := range leaves {
		proof := otherProof(leaves, i)
		for k := 1; k < len(proof); k++ {
			swapped := slices.Clone(proof)
			swapped[k-1], swapped[k] = swapped[k], swapped[k-1]
			if Verify(root, n, i, leaf, swapped) {
				t.Errorf("index %d: the elements %d and %d may be swapped", i, k-1, k)
			}
		}
		// Bit k of sides tells on which side the element k is; just one choice is that of the path.
		accepted := 0
		for sides := range 1 << len(proof) {
			d := leafHash(leaf)
			for k, p := range proof {
				if sides>>k&1 == 0 {
					d = nodeHash(d, p)
				} else {
					d = nodeHash(p, d)
				}
			}
			if Verify(d, n, i, leaf, proof) != (d == root) {
				t.Errorf("index %d: the root with the sides %b", i, sides)
			}
			if d == root {
				accepted++
			}
		}
		if accepted != 1 {
			t.Errorf("index %d: %d choices of sides are accepted", i, accepted)
		}
	}
}

// greatTrees are numbers of leaves with which no list of leaves could be built.
var greatTrees = []int{
	1<<20 + 1, 1<<31 - 1, 1 << 31, 1<<31 + 1, 1<<32 - 1, 1 << 32, 1<<32 + 1, 1<<53 + 1, 123456789012345678,
	1<<61 + 1, 1<<62 - 1, 1 << 62, 1<<62 + 1, 3 << 61, math.MaxInt - 1, math.MaxInt,
}

// P3.3: in trees of any size, a proof of just the right length verifies for just the root that it combines to.
func TestVerifyGreatTrees(t *testing.T) {
	all := digests(70, 15)
	leaf := all[69]
	for _, n := range greatTrees {
		for _, i := range []int{0, 1, 2, 1<<20 - 1, 1 << 20, n / 3, n / 2, n/2 + 1, n - 3, n - 2, n - 1} {
			size := pathLength(t, n, i)
			root, _ := combined(n, i, leaf, all[:size])
			for k := range 66 {
				if got := Verify(root, n, i, leaf, all[:k]); got != (k == size) {
					t.Errorf("index %d of %d leaves: %d elements: %t", i, n, k, got)
				}
			}
			if Verify(root, n, i, all[68], all[:size]) || Verify(all[68], n, i, leaf, all[:size]) {
				t.Errorf("index %d of %d leaves: another leaf or root is accepted", i, n)
			}
			if other := slices.Concat(all[:size-1], all[66:67]); Verify(root, n, i, leaf, other) {
				t.Errorf("index %d of %d leaves: another last element is accepted", i, n)
			}
		}
	}
}

// P3.3 and P1: the answers for arguments of all kinds.
func TestVerifyAnyArguments(t *testing.T) {
	all := digests(1000, 16)
	r := rand.New(rand.NewSource(17))
	number := func() int { return int(r.Uint64()) >> r.Intn(64) }
	for range 3000 {
		n, i := number(), number()
		proof := all[:r.Intn(80)]
		root := all[0]
		if i >= 0 && i < n {
			if r.Intn(4) > 0 {
				proof = all[:pathLength(t, n, i)]
			}
			root, _ = combined(n, i, all[5], proof)
		}
		if got, want := Verify(root, n, i, all[5], proof), otherVerify(root, n, i, all[5], proof); got != want {
			t.Errorf("index %d of %d leaves, %d elements: %t", i, n, len(proof), got)
		}
	}
	for _, n := range greatTrees {
		if Verify(all[0], n, n-1, all[1], all) || Verify(all[0], n, 0, all[1], nil) {
			t.Errorf("%d leaves: a proof is accepted", n)
		}
	}
}

// P3.4: what Prove returns verifies, for its leaf and for no other one of the list.
func TestProofsVerify(t *testing.T) {
	for _, n := range append([]int{127, 128, 129, 1000}, sizes...) {
		leaves := digests(n, 18)
		root := Root(leaves)
		for i := 0; i < n; i += 1 + n/30 {
			proof, err := Prove(leaves, i)
			if err != api.OK || !Verify(root, n, i, leaves[i], proof) {
				t.Errorf("the proof of index %d of %d leaves does not verify: %d", i, n, err)
			}
			for k, d := range leaves {
				if k != i && (Verify(root, n, i, d, proof) || Verify(root, n, k, leaves[i], proof)) {
					t.Errorf("the proof of index %d of %d leaves verifies for leaf %d", i, n, k)
				}
			}
		}
	}
}

// eachList calls f with all lists of n digests of an alphabet.
func eachList(alphabet []api.Digest, n int, f func(l []api.Digest)) {
	l := make([]api.Digest, n)
	var fill func(i int)
	fill = func(i int) {
		if i == n {
			f(l)
			return
		}
		for _, d := range alphabet {
			l[i] = d
			fill(i + 1)
		}
	}
	fill(0)
}

// P3.4: different lists of equal length have different roots, even if the digest of a tree is a leaf.
func TestRootsOfListsDiffer(t *testing.T) {
	d := digests(2, 19)
	alphabet := []api.Digest{d[0], d[1], leafHash(d[0]), nodeHash(leafHash(d[0]), leafHash(d[1])), hash(1)}
	for n := 1; n <= 5; n++ {
		seen := map[api.Digest]bool{}
		count := 0
		eachList(alphabet, n, func(l []api.Digest) {
			seen[Root(l)] = true
			count++
		})
		if len(seen) != count {
			t.Errorf("%d lists of %d leaves have %d roots", count, n, len(seen))
		}
	}
	for _, n := range sizes {
		leaves := digests(n, 20)
		root := Root(leaves)
		for i := range leaves {
			l := slices.Clone(leaves)
			l[i][i%api.DigestSize] ^= 1
			if Root(l) == root {
				t.Errorf("the root of %d leaves does not depend on leaf %d", n, i)
			}
		}
	}
}

// P3.4: a proof from one list verifies against the root of another one just if both agree but for the leaf that is proven.
func TestProofsOfOtherLists(t *testing.T) {
	alphabet := digests(2, 21)
	for n := 1; n <= 4; n++ {
		var lists [][]api.Digest
		eachList(alphabet, n, func(l []api.Digest) { lists = append(lists, slices.Clone(l)) })
		for _, of := range lists {
			root := Root(of)
			for _, from := range lists {
				for i := range n {
					proof, _ := Prove(from, i)
					for _, leaf := range alphabet {
						l := slices.Clone(from)
						l[i] = leaf
						if Verify(root, n, i, leaf, proof) != slices.Equal(l, of) {
							t.Errorf("index %d of %d leaves: the proof from %x against the root of %x", i, n, from, of)
						}
					}
				}
			}
		}
	}
}

// roomy returns a copy of l with room behind it, which an append to it would overwrite, and a check that all of it is unchanged.
func roomy(t *testing.T, l []api.Digest) ([]api.Digest, func()) {
	whole := slices.Concat(l, digests(20, 22))
	before := slices.Clone(whole)
	return whole[:len(l)], func() {
		t.Helper()
		if !slices.Equal(whole, before) {
			t.Errorf("an argument of %d digests was changed", len(l))
		}
	}
}

// The section Memory of DOC.md: arguments are not modified, nor is what lies behind them.
func TestArgumentsAreNotModified(t *testing.T) {
	for _, n := range append([]int{0}, sizes...) {
		leaves, checkLeaves := roomy(t, digests(n, 23))
		root := Root(leaves)
		for i := -1; i <= n; i++ {
			p, _ := Prove(leaves, i)
			proof, checkProof := roomy(t, p)
			Verify(root, n, i, api.Digest{}, proof)
			Verify(root, n+1, i, api.Digest{}, proof)
			if i >= 0 && i < n && !Verify(root, n, i, leaves[i], proof) {
				t.Errorf("the proof of index %d of %d leaves does not verify", i, n)
			}
			checkProof()
		}
		checkLeaves()
	}
}

// The sections Memory and State of DOC.md: results are the same in every call and share no memory with anything.
func TestCallsAreIndependent(t *testing.T) {
	for _, n := range sizes {
		leaves := digests(n, 24)
		root := Root(leaves)
		for i := range n {
			first, _ := Prove(leaves, i)
			kept := slices.Clone(first)
			clear(first)
			second, _ := Prove(leaves, i)
			clear(first[:cap(first)])
			if !slices.Equal(second, kept) || Root(leaves) != root {
				t.Errorf("index %d of %d leaves: a second call has another result", i, n)
			}
			changed := slices.Clone(leaves)
			third, _ := Prove(changed, i)
			clear(changed)
			if !slices.Equal(third, kept) {
				t.Errorf("index %d of %d leaves: the proof shares memory with the leaves", i, n)
			}
		}
	}
}
