// Package hamming: sums of sectors by which one wrong bit is put right: see DOC.md.
package hamming

import (
	"math/bits"

	"shale/api"
)

// A bit's number has three digits that say where in its byte it is, and eight that are its byte's number.
const (
	sectorBits = 8 * api.Sector
	bitDigits  = 3
	numDigits  = 11
	fixedOnes  = 3 << (2 * numDigits)
	evenBits   = 0x155555 // each bit 2i of a sum, i below numDigits
)

// digitOnes has, for each digit inside of a byte, the bits whose number has a 1 there.
var digitOnes = [bitDigits]byte{0xAA, 0xCC, 0xF0}

// parities tells of each byte whether an odd number of its bits is 1.
var parities = byteParities()

func byteParities() [256]uint8 {
	var table [256]uint8
	for i := range table {
		table[i] = table[i/2] ^ uint8(i&1)
	}
	return table
}

// Sum tells a sector's sum.
func Sum(sector []byte) ([3]byte, api.Errno) {
	if len(sector) != api.Sector {
		return [3]byte{}, api.ErrSector
	}
	return asBytes(sumOf(sector)), api.OK
}

// sumOf takes all bytes together first: the digits inside of a byte hang on the bytes' exclusive or alone, the others on the numbers of the bytes that are odd.
func sumOf(sector []byte) uint32 {
	var column, odd, even byte
	for j, x := range sector {
		column ^= x
		if parities[x] == 1 {
			odd ^= byte(j)
			even ^= ^byte(j)
		}
	}
	sum := uint32(fixedOnes)
	for i, ones := range digitOnes {
		sum |= uint32(parities[column&^ones]) << (2 * i)
		sum |= uint32(parities[column&ones]) << (2*i + 1)
	}
	for i := range numDigits - bitDigits {
		at := 2 * (i + bitDigits)
		sum |= uint32(even>>i&1) << at
		sum |= uint32(odd>>i&1) << (at + 1)
	}
	return sum
}

// Fix tells a sector and its sum put right, and which bit was wrong (-1: none; from 2048 on one of the sum).
func Fix(sector []byte, sum [3]byte) ([]byte, [3]byte, int, api.Errno) {
	if len(sector) != api.Sector {
		return nil, [3]byte{}, 0, api.ErrSector
	}
	given := asNumber(sum)
	d := given ^ sumOf(sector)
	at := -1
	switch {
	case d == 0:
	case bits.OnesCount32(d) == 1:
		at = sectorBits + bits.TrailingZeros32(d)
		given ^= d
	case d>>(2*numDigits) == 0 && (d^d>>1)&evenBits == evenBits:
		at = numberIn(d)
	default:
		return nil, [3]byte{}, 0, api.ErrTwo
	}
	right := append([]byte(nil), sector...)
	if at >= 0 && at < sectorBits {
		right[at/8] ^= 1 << (at % 8)
	}
	return right, asBytes(given), at, api.OK
}

// numberIn gathers the upper bits of d's pairs: the digits of the wrong bit's number.
func numberIn(d uint32) int {
	n := 0
	for i := range numDigits {
		n |= int(d>>(2*i+1)&1) << i
	}
	return n
}

func asNumber(sum [3]byte) uint32 {
	return uint32(sum[0]) | uint32(sum[1])<<8 | uint32(sum[2])<<16
}

func asBytes(sum uint32) [3]byte {
	return [3]byte{byte(sum), byte(sum >> 8), byte(sum >> 16)}
}
