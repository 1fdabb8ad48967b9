// Package wire encodes values as bytes (layer 1, shared/doc/01-wire.md).
package wire

import "bootchain/api"

const (
	groupBits = 7
	groupMask = 1<<groupBits - 1
	moreFlag  = 1 << groupBits
	// maxGroups is the number of groups of the longest encoding of an integer.
	maxGroups = 10
	// maxTop is the greatest last group of such an encoding: nine groups leave one of 64 bits.
	maxTop = 1
)

// Int returns the encoding of an integer.
func Int(n int) []byte { return appendInt(nil, n) }

// appendInt appends the encoding of n to out.
func appendInt(out []byte, n int) []byte {
	u := zigzag(n)
groups:
	for {
		group := byte(u & groupMask)
		u >>= groupBits
		switch u {
		case 0:
			out = append(out, group)
			break groups
		default:
			out = append(out, group|moreFlag)
		}
	}
	return out
}

// zigzag numbers the integers 0, -1, 1, -2, 2 and so on, so that small ones of either sign have short encodings.
func zigzag(n int) uint64 {
	if n >= 0 {
		return uint64(n) << 1
	}
	// ^n is -n-1, which does not overflow for the least integer.
	return uint64(^n)<<1 | 1
}

// unzigzag is the inverse of zigzag.
func unzigzag(u uint64) int {
	half := int(u >> 1)
	if u&1 == 0 {
		return half
	}
	return ^half
}

// GetInt decodes an integer at the beginning of a byte sequence.
func GetInt(b []byte) (int, int, api.Errno) {
	var u uint64
	for i, c := range b {
		// This also refuses a tenth byte that announces an eleventh one, so the loop ends here at the latest.
		if i == maxGroups-1 && c > maxTop {
			return 0, 0, api.ErrEncoding
		}
		u |= uint64(c&groupMask) << (groupBits * i)
		if c >= moreFlag {
			continue
		}
		if c == 0 && i > 0 {
			return 0, 0, api.ErrEncoding
		}
		return unzigzag(u), i + 1, api.OK
	}
	return 0, 0, api.ErrTruncated
}

// getLength decodes the number of elements that follow it, each of which takes at least size bytes.
func getLength(b []byte, size int) (int, int, api.Errno) {
	n, used, err := GetInt(b)
	if err != api.OK {
		return 0, 0, err
	}
	if n < 0 {
		return 0, 0, api.ErrEncoding
	}
	// Dividing avoids the overflow of n * size.
	if n > (len(b)-used)/size {
		return 0, 0, api.ErrTruncated
	}
	return n, used, api.OK
}

// Bytes returns the encoding of a byte string.
func Bytes(s string) []byte { return append(Int(len(s)), s...) }

// GetBytes decodes a byte string at the beginning of a byte sequence.
func GetBytes(b []byte) (string, int, api.Errno) {
	n, used, err := getLength(b, 1)
	if err != api.OK {
		return "", 0, err
	}
	end := used + n
	return string(b[used:end]), end, api.OK
}

// getList decodes a length and as many elements of at least size bytes; element decodes the one at an index of b and returns it with the number of its bytes.
func getList[T any](b []byte, size int, element func(at int) (T, int, api.Errno)) ([]T, int, api.Errno) {
	n, at, err := getLength(b, size)
	if err != api.OK {
		return nil, 0, err
	}
	l := make([]T, 0, n)
	for range n {
		v, used, err := element(at)
		if err != api.OK {
			return nil, 0, err
		}
		l = append(l, v)
		at += used
	}
	return l, at, api.OK
}

// Ints returns the encoding of a list of integers.
func Ints(l []int) []byte {
	out := Int(len(l))
	for _, n := range l {
		out = appendInt(out, n)
	}
	return out
}

// GetInts decodes a list of integers at the beginning of a byte sequence.
func GetInts(b []byte) ([]int, int, api.Errno) {
	return getList(b, 1, func(at int) (int, int, api.Errno) {
		return GetInt(b[at:])
	})
}

// Digests returns the encoding of a list of digests.
func Digests(l []api.Digest) []byte {
	out := Int(len(l))
	for _, d := range l {
		out = append(out, d[:]...)
	}
	return out
}

// GetDigests decodes a list of digests at the beginning of a byte sequence.
func GetDigests(b []byte) ([]api.Digest, int, api.Errno) {
	return getList(b, api.DigestSize, func(at int) (api.Digest, int, api.Errno) {
		return api.Digest(b[at : at+api.DigestSize]), api.DigestSize, api.OK
	})
}
