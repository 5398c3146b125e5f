// Package bytes is layer 1: numbers and bytes, one behind the other, and a sum (see shared/doc/01-bytes.md).
package bytes

import (
	"math/bits"

	"drover/api"
)

const (
	mostOfNumber = 10 // bytes of a varint: 64 bits, seven by seven
	restBits     = 7  // bits of a number that stand in one byte
	moreBit      = 1 << restBits
	sumSize      = 4
	sumTurn      = 3988292384 // what the sum is turned by at each bit that falls out
)

// Uint is out, and behind it n as a varint.
func Uint(out []byte, n uint64) []byte {
	out = own(out, mostOfNumber)
	// The last byte stands apart, so 0, which has no bit at all, has one byte as 1 has.
	for range (bits.Len64(n|1) - 1) / restBits {
		out = append(out, byte(n)|moreBit)
		n >>= restBits
	}
	return append(out, byte(n))
}

// Int is out, and behind it n as a signed one.
func Int(out []byte, n int64) []byte {
	// The sign, laid over all bits, makes 2 n of n, and -2 n - 1 of an n below 0, with no bit lost at -2^63.
	return Uint(out, uint64(n)<<1^uint64(n>>63))
}

// Blob is out, and behind it how many bytes b has, and these.
func Blob(out, b []byte) []byte {
	return append(Uint(out, uint64(len(b))), b...)
}

// GetUint is the varint of b at that place, and the place behind it.
func GetUint(b []byte, at int) (uint64, int, api.Errno) {
	if at < 0 || at > len(b) {
		return 0, 0, api.ErrArg
	}
	var n uint64
	for i := range min(len(b)-at, mostOfNumber) {
		x := b[at+i]
		// A last byte 0 would be a second form of a shorter number; a tenth byte has only the 64th bit left.
		if i > 0 && x == 0 || i == mostOfNumber-1 && x > 1 {
			return 0, 0, api.ErrBytes
		}
		n |= uint64(x&(moreBit-1)) << (restBits * i)
		if x < moreBit {
			return n, at + i + 1, api.OK
		}
	}
	return 0, 0, api.ErrShort
}

// GetInt is the signed one of b at that place, and the place behind it.
func GetInt(b []byte, at int) (int64, int, api.Errno) {
	n, next, e := GetUint(b, at)
	if e != api.OK {
		return 0, 0, e
	}
	return int64(n>>1) ^ -int64(n&1), next, api.OK
}

// GetBlob is the blob of b at that place, of at most so many bytes, and the place behind it.
func GetBlob(b []byte, at, most int) ([]byte, int, api.Errno) {
	n, from, e := GetUint(b, at)
	switch {
	case e != api.OK:
		return nil, 0, e
	case most < 0 || n > uint64(most):
		return nil, 0, api.ErrLong
	case n > uint64(len(b)-from):
		return nil, 0, api.ErrShort
	}
	next := from + int(n)
	return own(b[from:next], 0), next, api.OK
}

// Crc is the sum of b.
func Crc(b []byte) uint32 {
	c := ^uint32(0)
	for _, x := range b {
		c ^= uint32(x)
		for range 8 {
			// The lowest bit decides by a mask and not by a branch, since no processor can guess it.
			c = c>>1 ^ sumTurn&-(c&1)
		}
	}
	return ^c
}

// Seal is b, and behind it its sum.
func Seal(b []byte) []byte {
	c := Crc(b)
	return append(own(b, sumSize), byte(c>>24), byte(c>>16), byte(c>>8), byte(c))
}

// Unseal is what was sealed.
func Unseal(b []byte) ([]byte, api.Errno) {
	at := len(b) - sumSize
	if at < 0 {
		return nil, api.ErrShort
	}
	var told uint32
	for i := range sumSize {
		told = told<<8 | uint32(b[at+i])
	}
	if told != Crc(b[:at]) {
		return nil, api.ErrSum
	}
	return own(b[:at], 0), api.OK
}

// own is b in new memory with room for more: what is put behind it must not be seen in b's spare room.
func own(b []byte, more int) []byte {
	return append(make([]byte, 0, len(b)+more), b...)
}
