// Package rail: bytes on two rails, on which missing bits are always seen: see DOC.md.
package rail

import "shale/api"

const (
	maxBytes  = 4095
	maxLaying = 2 * (maxBytes + 1)
	bytePairs = 4 // pairs in a byte of a laying
)

// Size tells how many bytes n bytes are on two rails.
func Size(n int) (int, api.Errno) {
	if n < 0 || n > maxBytes {
		return 0, api.ErrLength
	}
	return 2 * (n + 1), api.OK
}

// Lay puts bytes on two rails.
func Lay(b []byte) ([]byte, api.Errno) {
	size, e := Size(len(b))
	if e != api.OK {
		return nil, e
	}
	laid := make([]byte, 0, size)
	for i := range len(b) {
		laid = append(laid, pairsOf(b[i]), pairsOf(b[i]>>bytePairs))
	}
	sum := columnSum(b)
	return append(laid, pairsOf(sum), pairsOf(sum>>bytePairs)), api.OK
}

// pairsOf lays the lower four bits of x, each with its opposite above it.
func pairsOf(x byte) byte {
	var laid byte
	for k := range bytePairs {
		bit := x >> k & 1
		laid |= (bit | (bit^1)<<1) << (2 * k)
	}
	return laid
}

func columnSum(b []byte) byte {
	var sum byte
	for i := range len(b) {
		sum ^= b[i]
	}
	return sum
}

// Read takes them off, one wrong bit put right; it tells which (-1: none).
func Read(b []byte) ([]byte, int, api.Errno) {
	if len(b)%2 != 0 || len(b) < 2 || len(b) > maxLaying {
		return nil, 0, api.ErrLength
	}
	rows, broken, ok := lift(b)
	if !ok {
		return nil, 0, api.ErrRail
	}
	pair := -1
	if broken != nil {
		pair = *broken
		mend(rows, pair)
	}
	if columnSum(rows) != 0 {
		return nil, 0, api.ErrRail
	}
	return rows[:len(rows)-1], pair, api.OK
}

// lift takes the lower bits of the pairs, 0 for one that is broken, and tells which pair that is; false: more than one is.
func lift(b []byte) ([]byte, *int, bool) {
	rows := make([]byte, len(b)/2)
	var broken *int
	for i := range len(b) {
		for k := range bytePairs {
			pair := bytePairs*i + k
			lower, upper := b[i]>>(2*k)&1, b[i]>>(2*k+1)&1
			if lower != upper {
				row, column := placeOf(pair)
				rows[row] |= lower << column
				continue
			}
			if broken != nil {
				return nil, nil, false
			}
			at := pair
			broken = &at
		}
	}
	return rows, broken, true
}

// mend sets the broken pair's bit, which is 0, to what its column's sum lacks.
func mend(rows []byte, pair int) {
	row, column := placeOf(pair)
	rows[row] |= columnSum(rows) & (1 << column)
}

// placeOf tells which bit of which byte stands on a pair.
func placeOf(pair int) (row, column int) {
	return pair / 8, pair % 8
}
