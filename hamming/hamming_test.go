package hamming

import (
	"bytes"
	"math/bits"
	"math/rand"
	"slices"
	"testing"

	"shale/api"
)

const unitBits = 2048 + 24

// some tells a sector that is the same in each run of the tests.
func some(seed int64) []byte {
	b := make([]byte, 256)
	rand.New(rand.NewSource(seed)).Read(b)
	return b
}

// slowSum follows the chapter's words bit by bit.
func slowSum(sector []byte) [3]byte {
	var sum [3]byte
	for i := range 11 {
		for n := range 2048 {
			at := 2*i + n>>i&1
			sum[at/8] ^= sector[n/8] >> (n % 8) & 1 << (at % 8)
		}
	}
	sum[2] |= 0xC0
	return sum
}

// sumOK is Sum of what is a sector.
func sumOK(t *testing.T, sector []byte) [3]byte {
	t.Helper()
	s, e := Sum(sector)
	if e != api.OK {
		t.Fatalf("Sum: %d", e)
	}
	return s
}

// turn turns round one bit of a sector or, from 2048 on, of its sum.
func turn(sector []byte, sum *[3]byte, n int) {
	if n < 2048 {
		sector[n/8] ^= 1 << (n % 8)
	} else {
		sum[(n-2048)/8] ^= 1 << (n % 8)
	}
}

// apart tells how many bits of two sectors with their sums are unlike.
func apart(a []byte, s [3]byte, b []byte, u [3]byte) int {
	n := 0
	for i := range a {
		n += bits.OnesCount8(a[i] ^ b[i])
	}
	for i := range s {
		n += bits.OnesCount8(s[i] ^ u[i])
	}
	return n
}

func zeros(sector []byte, sum [3]byte) int {
	return apart(sector, sum, bytes.Repeat([]byte{255}, 256), [3]byte{255, 255, 255})
}

func refused(sector []byte, sum [3]byte, at int) bool {
	return sector == nil && sum == [3]byte{} && at == 0
}

func TestSumExamples(t *testing.T) {
	first, last := make([]byte, 256), make([]byte, 256)
	first[0], last[255] = 1, 0x80
	for _, c := range []struct {
		sector []byte
		want   [3]byte
	}{
		{make([]byte, 256), [3]byte{0, 0, 0xC0}},
		{bytes.Repeat([]byte{0xFF}, 256), [3]byte{0, 0, 0xC0}},
		{first, [3]byte{0x55, 0x55, 0xD5}},
		{last, [3]byte{0xAA, 0xAA, 0xEA}},
	} {
		if s := sumOK(t, c.sector); s != c.want {
			t.Errorf("Sum: % x, want % x", s, c.want)
		}
	}
}

func TestSumBitByBit(t *testing.T) {
	for n := range 2048 {
		b := make([]byte, 256)
		b[n/8] = 1 << (n % 8)
		if s := sumOK(t, b); s != slowSum(b) {
			t.Errorf("Sum of the bit %d alone: % x, want % x", n, s, slowSum(b))
		}
	}
	for seed := range int64(200) {
		if s := sumOK(t, some(seed)); s != slowSum(some(seed)) {
			t.Errorf("Sum of the sector %d: % x, want % x", seed, s, slowSum(some(seed)))
		}
	}
}

func TestErrSector(t *testing.T) {
	for _, n := range []int{0, 1, 255, 257, 512} {
		if s, e := Sum(make([]byte, n)); e != api.ErrSector || s != [3]byte{} {
			t.Errorf("Sum of %d bytes: % x, %d", n, s, e)
		}
		// A sum that would be ErrTwo, too: ErrSector comes first.
		if b, s, at, e := Fix(make([]byte, n), [3]byte{3, 0, 0xC0}); e != api.ErrSector || !refused(b, s, at) {
			t.Errorf("Fix of %d bytes: %v, % x, %d, %d", n, b, s, at, e)
		}
	}
	if _, e := Sum(nil); e != api.ErrSector {
		t.Errorf("R3: Sum(nil): %d", e)
	}
	if _, _, _, e := Fix(nil, [3]byte{}); e != api.ErrSector {
		t.Errorf("R3: Fix(nil): %d", e)
	}
	if _, e := Sum(make([]byte, 255, 256)); e != api.ErrSector {
		t.Errorf("Sum of 255 bytes with room for one more: %d", e)
	}
}

func TestFixOfWhatIsRight(t *testing.T) {
	for seed := range int64(100) {
		b := some(seed)
		s := sumOK(t, b)
		if x, u, at, e := Fix(b, s); e != api.OK || at != -1 || u != s || !bytes.Equal(x, b) {
			t.Errorf("the sector %d: % x, %d, %d", seed, u, at, e)
		}
	}
}

func TestFixExamples(t *testing.T) {
	nothing := make([]byte, 256)
	first := make([]byte, 256)
	first[0] = 1
	for _, c := range []struct {
		sum, want [3]byte
		sector    []byte
		at        int
		e         api.Errno
	}{
		{[3]byte{0x55, 0x55, 0xD5}, [3]byte{0x55, 0x55, 0xD5}, first, 0, api.OK},
		{[3]byte{1, 0, 0xC0}, [3]byte{0, 0, 0xC0}, nothing, 2048, api.OK},
		{[3]byte{0, 0, 0x40}, [3]byte{0, 0, 0xC0}, nothing, 2071, api.OK},
		{[3]byte{3, 0, 0xC0}, [3]byte{}, nil, 0, api.ErrTwo},
		{[3]byte{0, 0, 0}, [3]byte{}, nil, 0, api.ErrTwo},
		{[3]byte{0x55, 0x55, 0x55}, [3]byte{}, nil, 0, api.ErrTwo}, // all pairs, and the bit 23
		{[3]byte{0x55, 0x55, 0x95}, [3]byte{}, nil, 0, api.ErrTwo}, // all pairs, and the bit 22
		{[3]byte{0x54, 0x55, 0xD5}, [3]byte{}, nil, 0, api.ErrTwo}, // a pair with none
		{[3]byte{0x57, 0x55, 0xD5}, [3]byte{}, nil, 0, api.ErrTwo}, // a pair with both
		{[3]byte{0x55, 0x55, 0xC5}, [3]byte{}, nil, 0, api.ErrTwo}, // the last pair with none
	} {
		if b, s, at, e := Fix(nothing, c.sum); e != c.e || at != c.at || s != c.want || !bytes.Equal(b, c.sector) {
			t.Errorf("Fix of 256 bytes 0 and % x: % x, %d, %d", c.sum, s, at, e)
		}
	}
}

// slowFix follows the chapter's words pair by pair: at, and whether it is OK.
func slowFix(sector []byte, sum [3]byte) (int, bool) {
	own := slowSum(sector)
	var one []int
	for k := range 24 {
		if (own[k/8]^sum[k/8])>>(k%8)&1 == 1 {
			one = append(one, k)
		}
	}
	if len(one) == 0 {
		return -1, true
	}
	if len(one) == 1 {
		return 2048 + one[0], true
	}
	n := 0
	for i := range 11 {
		lower, upper := slices.Contains(one, 2*i), slices.Contains(one, 2*i+1)
		if lower == upper {
			return 0, false
		}
		if upper {
			n += 1 << i
		}
	}
	return n, len(one) == 11
}

func TestFixHeldAgainstTheWords(t *testing.T) {
	random := rand.New(rand.NewSource(1))
	b := some(77)
	own := slowSum(b)
	for range 2000 {
		sum := own
		if random.Intn(2) == 0 { // near to a bit of the sector
			n := random.Intn(2048)
			for i := range 11 {
				turn(nil, &sum, 2048+2*i+n>>i&1)
			}
		}
		for range random.Intn(4) {
			turn(nil, &sum, 2048+random.Intn(24))
		}
		want, ok := slowFix(b, sum)
		_, _, at, e := Fix(b, sum)
		if (e == api.OK) != ok || ok && at != want || !ok && (e != api.ErrTwo || at != 0) {
			t.Fatalf("Fix with the sum % x: %d, %d, want %d, %v", sum, at, e, want, ok)
		}
	}
}

func TestP21OneBit(t *testing.T) {
	for _, b := range [][]byte{some(1), some(2), make([]byte, 256), bytes.Repeat([]byte{255}, 256)} {
		s := sumOK(t, b)
		for n := range unitBits {
			c, u := slices.Clone(b), s
			turn(c, &u, n)
			x, v, at, e := Fix(c, u)
			if e != api.OK || at != n || v != s || !bytes.Equal(x, b) {
				t.Fatalf("the bit %d: % x, %d, %d", n, v, at, e)
			}
		}
	}
}

func TestP22TwoBits(t *testing.T) {
	b := some(3)
	s := sumOK(t, b)
	for n := range unitBits {
		turn(b, &s, n)
		for m := range n {
			turn(b, &s, m)
			if x, v, at, e := Fix(b, s); e != api.ErrTwo || !refused(x, v, at) {
				t.Fatalf("the bits %d and %d: % x, %d, %d", n, m, v, at, e)
			}
			turn(b, &s, m)
		}
		turn(b, &s, n)
	}
}

func TestP23WhatIsToldIsRight(t *testing.T) {
	random := rand.New(rand.NewSource(2))
	right := 0
	for seed := range int64(4000) {
		b := some(seed)
		s := sumOK(t, b)
		for range random.Intn(6) {
			turn(b, &s, random.Intn(unitBits))
		}
		if seed%8 == 0 {
			random.Read(s[:])
		}
		x, v, _, e := Fix(b, s)
		if e != api.OK {
			continue
		}
		right++
		if len(x) != 256 || v != slowSum(x) || apart(x, v, b, s) > 1 {
			t.Fatalf("the sector %d: % x, own % x, %d bits apart", seed, v, slowSum(x), apart(x, v, b, s))
		}
	}
	if right < 100 {
		t.Errorf("only %d were put right: nothing is shown", right)
	}
}

func TestP24WhatOnlyRises(t *testing.T) {
	random := rand.New(rand.NewSource(3))
	fewer := 0
	for seed := range int64(20000) {
		b := some(seed % 50)
		s := sumOK(t, b)
		c, u := slices.Clone(b), s
		for want := 1 + random.Intn(5); apart(b, s, c, u) < want; {
			if n := random.Intn(unitBits); mayRise(c, u, n) {
				turn(c, &u, n)
			}
		}
		x, v, _, e := Fix(c, u)
		if e == api.ErrTwo || v == s && bytes.Equal(x, b) {
			continue
		}
		fewer++
		if e != api.OK || zeros(x, v) >= zeros(b, s) {
			t.Fatalf("the sector %d, %d bits: %d, %d zeros of %d", seed, apart(b, s, c, u), e, zeros(x, v), zeros(b, s))
		}
	}
	if fewer == 0 {
		t.Error("none was told as another sector: the last case is not shown")
	}
}

// mayRise tells whether a bit is 0, and so may rise.
func mayRise(sector []byte, sum [3]byte, n int) bool {
	if n < 2048 {
		return sector[n/8]>>(n%8)&1 == 0
	}
	return sum[(n-2048)/8]>>(n%8)&1 == 0
}

func TestR4FixIsNewMemory(t *testing.T) {
	room := append(some(4), 1, 2, 3)
	before := slices.Clone(room)
	b := room[:256]
	s := sumOK(t, b)
	for n := -1; n < unitBits; n += 131 {
		sum := s
		if n >= 2048 {
			turn(nil, &sum, n)
		} else if n >= 0 {
			for i := range 11 {
				turn(nil, &sum, 2048+2*i+n>>i&1)
			}
		}
		x, _, at, e := Fix(b, sum)
		if e != api.OK || at != n {
			t.Fatalf("the bit %d: %d, %d", n, at, e)
		}
		for i := range x {
			x[i] ^= 255
		}
		_ = append(x, 9, 9, 9)
		if !bytes.Equal(room, before) {
			t.Fatalf("the bit %d: what was handed in was changed, or shares memory with the answer", n)
		}
	}
}
