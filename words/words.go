// Package words: numbers in bytes, bits counted, masks, digits: see DOC.md.
package words

import (
	"math/bits"

	"shale/api"
)

// maxSize is how many bytes a uint64 has.
const maxSize = 8

// Put writes a number into size bytes from a place on, the lowest byte first.
func Put(b []byte, at, size int, v uint64) api.Errno {
	if !sizeMayBe(size) || !fits(v, size) {
		return api.ErrWidth
	}
	if !reaches(b, at, size) {
		return api.ErrShort
	}
	for i := range size {
		b[at+i] = byte(v >> (8 * i))
	}
	return api.OK
}

// Get reads it.
func Get(b []byte, at, size int) (uint64, api.Errno) {
	if !sizeMayBe(size) {
		return 0, api.ErrWidth
	}
	if !reaches(b, at, size) {
		return 0, api.ErrShort
	}
	var v uint64
	for i := range size {
		v |= uint64(b[at+i]) << (8 * i)
	}
	return v, api.OK
}

func sizeMayBe(size int) bool { return size >= 1 && size <= maxSize }

// fits: a shift by the whole width leaves 0, so every number fits eight bytes.
func fits(v uint64, size int) bool { return v>>(8*size) == 0 }

// reaches holds at against what is left, as at + size may be too great for an int.
func reaches(b []byte, at, size int) bool { return at >= 0 && at <= len(b)-size }

// Join tells bytes one behind the other.
func Join(parts ...[]byte) []byte {
	n := 0
	for _, p := range parts {
		n += len(p)
	}
	all := make([]byte, 0, n)
	for _, p := range parts {
		all = append(all, p...)
	}
	return all
}

// Zeros counts the bits that are 0.
func Zeros(b []byte) int {
	n := 0
	for _, x := range b {
		n += bits.OnesCount8(^x)
	}
	return n
}

// Flip turns one bit round.
func Flip(b []byte, bit int) api.Errno {
	if bit < 0 || bit/8 >= len(b) {
		return api.ErrShort
	}
	b[bit/8] ^= 1 << (bit % 8)
	return api.OK
}

// Fall is what is left of bytes when others are programmed over them as far as a mask lets it.
func Fall(old, want, mask []byte, fill byte) ([]byte, api.Errno) {
	if len(old) != len(want) {
		return nil, api.ErrShort
	}
	left := make([]byte, len(old))
	for i := range left {
		left[i] = old[i] & (want[i] | ^maskAt(mask, fill, i))
	}
	return left, api.OK
}

// Rise is what is left of bytes when they are erased as far as a mask lets it.
func Rise(old, mask []byte, fill byte) []byte {
	left := make([]byte, len(old))
	for i := range left {
		left[i] = old[i] | maskAt(mask, fill, i)
	}
	return left
}

func maskAt(mask []byte, fill byte, i int) byte {
	if i < len(mask) {
		return mask[i]
	}
	return fill
}
