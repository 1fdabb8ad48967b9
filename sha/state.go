package sha

import "math/bits"

// blockSize is the number of bytes that the compression function takes at a time.
const blockSize = 64

// lengthSize is the number of bytes of the message's length at the end of the padding.
const lengthSize = 8

// state is a hash value between two blocks.
type state [8]uint32

// constants are the round constants K of the compression function.
var constants = [64]uint32{
	0x428a2f98, 0x71374491, 0xb5c0fbcf, 0xe9b5dba5, 0x3956c25b, 0x59f111f1, 0x923f82a4, 0xab1c5ed5,
	0xd807aa98, 0x12835b01, 0x243185be, 0x550c7dc3, 0x72be5d74, 0x80deb1fe, 0x9bdc06a7, 0xc19bf174,
	0xe49b69c1, 0xefbe4786, 0x0fc19dc6, 0x240ca1cc, 0x2de92c6f, 0x4a7484aa, 0x5cb0a9dc, 0x76f988da,
	0x983e5152, 0xa831c66d, 0xb00327c8, 0xbf597fc7, 0xc6e00bf3, 0xd5a79147, 0x06ca6351, 0x14292967,
	0x27b70a85, 0x2e1b2138, 0x4d2c6dfc, 0x53380d13, 0x650a7354, 0x766a0abb, 0x81c2c92e, 0x92722c85,
	0xa2bfe8a1, 0xa81a664b, 0xc24b8b70, 0xc76c51a3, 0xd192e819, 0xd6990624, 0xf40e3585, 0x106aa070,
	0x19a4c116, 0x1e376c08, 0x2748774c, 0x34b0bcb5, 0x391c0cb3, 0x4ed8aa4a, 0x5b9cca4f, 0x682e6ff3,
	0x748f82ee, 0x78a5636f, 0x84c87814, 0x8cc70208, 0x90befffa, 0xa4506ceb, 0xbef9a3f7, 0xc67178f2,
}

// initial returns the hash value before the first block.
func initial() state {
	return state{0x6a09e667, 0xbb67ae85, 0x3c6ef372, 0xa54ff53a, 0x510e527f, 0x9b05688c, 0x1f83d9ab, 0x5be0cd19}
}

// blocks returns the hash value after the blocks of b, whose length is a multiple of blockSize.
func (s state) blocks(b []byte) state {
	for at := 0; at < len(b); at += blockSize {
		s = state.compress(s, b[at:at+blockSize])
	}
	return s
}

// compress returns the hash value after a block.
func (s state) compress(block []byte) state {
	w := schedule(block)
	a, b, c, d, e, f, g, h := s[0], s[1], s[2], s[3], s[4], s[5], s[6], s[7]
	for i := range w {
		t1 := h + (rotr(e, 6) ^ rotr(e, 11) ^ rotr(e, 25)) + ((e & f) ^ (^e & g)) + constants[i] + w[i]
		t2 := (rotr(a, 2) ^ rotr(a, 13) ^ rotr(a, 22)) + ((a & b) ^ (a & c) ^ (b & c))
		h, g, f, e, d, c, b, a = g, f, e, d+t1, c, b, a, t1+t2
	}
	return state{s[0] + a, s[1] + b, s[2] + c, s[3] + d, s[4] + e, s[5] + f, s[6] + g, s[7] + h}
}

// schedule returns the words W that a block is expanded to, one for each round.
func schedule(block []byte) [64]uint32 {
	var w [64]uint32
	for i := range 16 {
		at := 4 * i
		w[i] = uint32(block[at])<<24 | uint32(block[at+1])<<16 | uint32(block[at+2])<<8 | uint32(block[at+3])
	}
	for i := 16; i < len(w); i++ {
		s0 := rotr(w[i-15], 7) ^ rotr(w[i-15], 18) ^ (w[i-15] >> 3)
		s1 := rotr(w[i-2], 17) ^ rotr(w[i-2], 19) ^ (w[i-2] >> 10)
		w[i] = w[i-16] + s0 + w[i-7] + s1
	}
	return w
}

// rotr rotates x right by n bits.
func rotr(x uint32, n int) uint32 { return bits.RotateLeft32(x, -n) }

// lastBlocks returns the blocks at the end of a message of size bytes: the rest that fills no block, with its padding.
func lastBlocks(rest []byte, size int) []byte {
	// The rest is shorter than a block, so that two blocks hold it with its padding.
	out := make([]byte, 0, 2*blockSize)
	out = append(out, rest...)
	out = append(out, 128)
	for len(out)%blockSize != blockSize-lengthSize {
		out = append(out, 0)
	}
	n := uint64(size) * 8
	for shift := 56; shift >= 0; shift -= 8 {
		out = append(out, byte(n>>shift))
	}
	return out
}

// bytes returns the words of the hash value as bytes.
func (s state) bytes() [32]byte {
	var out [32]byte
	for i, x := range s {
		at := 4 * i
		out[at], out[at+1], out[at+2], out[at+3] = byte(x>>24), byte(x>>16), byte(x>>8), byte(x)
	}
	return out
}
