package words

import (
	"bytes"
	"hash/crc32"
	"math"
	"math/rand"
	"slices"
	"strings"
	"testing"

	"shale/api"
)

// some tells n bytes that are the same in each run of the tests.
func some(seed int64, n int) []byte {
	b := make([]byte, n)
	rand.New(rand.NewSource(seed)).Read(b)
	return b
}

func bitOf(b []byte, n int) byte { return b[n/8] >> (n % 8) & 1 }

func TestW1PutLaysTheLowestByteFirst(t *testing.T) {
	for size := 1; size <= 8; size++ {
		for at := 0; at+size <= 12; at++ {
			b := bytes.Repeat([]byte{0xEE}, 12)
			want := slices.Clone(b)
			v := uint64(0x8877665544332211) >> (64 - 8*size)
			for i, rest := 0, v; i < size; i++ {
				want[at+i], rest = byte(rest%256), rest/256
			}
			if e := Put(b, at, size, v); e != api.OK || !bytes.Equal(b, want) {
				t.Errorf("Put(at %d, size %d, %x): % x, %d, want % x", at, size, v, b, e, want)
			}
		}
	}
}

func TestW1PutRefuses(t *testing.T) {
	for _, c := range []struct {
		n, at, size int
		v           uint64
		want        api.Errno
	}{
		{4, 0, 0, 0, api.ErrWidth},
		{4, 0, -1, 0, api.ErrWidth},
		{4, 0, math.MinInt, 0, api.ErrWidth},
		{9, 0, 9, 0, api.ErrWidth},
		{9, 0, math.MaxInt, 0, api.ErrWidth},
		{4, 0, 1, 256, api.ErrWidth},
		{4, 0, 2, 1 << 16, api.ErrWidth},
		{8, 0, 7, 1 << 56, api.ErrWidth},
		{8, 0, 7, math.MaxUint64, api.ErrWidth},
		{0, -1, 9, 0, api.ErrWidth},
		{0, -1, 1, 256, api.ErrWidth},
		{4, -1, 1, 0, api.ErrShort},
		{4, math.MinInt, 1, 0, api.ErrShort},
		{4, 4, 1, 0, api.ErrShort},
		{4, 3, 2, 0, api.ErrShort},
		{4, 0, 5, 0, api.ErrShort},
		{4, math.MaxInt, 8, 0, api.ErrShort},
		{0, 0, 1, 0, api.ErrShort},
	} {
		b := some(1, c.n)
		if e := Put(b, c.at, c.size, c.v); e != c.want {
			t.Errorf("Put(%d bytes, %d, %d, %d): %d, want %d", c.n, c.at, c.size, c.v, e, c.want)
		}
		if !bytes.Equal(b, some(1, c.n)) {
			t.Errorf("R5: Put(%d bytes, %d, %d, %d) was refused and changed something", c.n, c.at, c.size, c.v)
		}
	}
	if e := Put(nil, 0, 1, 0); e != api.ErrShort {
		t.Errorf("R3: Put(nil): %d", e)
	}
}

func TestW1PutStaysInsideOfTheLength(t *testing.T) {
	b := []byte{1, 2, 3, 4, 5}[:2]
	if e := Put(b, 1, 2, 0); e != api.ErrShort || !bytes.Equal(b[:5], []byte{1, 2, 3, 4, 5}) {
		t.Errorf("Put into spare room: %d, % x", e, b[:5])
	}
}

func TestW1Get(t *testing.T) {
	b := []byte{1, 2, 3, 4, 5, 6, 7, 0xF8, 9}
	for _, c := range []struct {
		at, size int
		want     uint64
		e        api.Errno
	}{
		{0, 1, 1, api.OK},
		{8, 1, 9, api.OK},
		{1, 2, 770, api.OK},
		{0, 3, 0x030201, api.OK},
		{0, 8, 0xF807060504030201, api.OK},
		{1, 8, 0x09F8070605040302, api.OK},
		{0, 0, 0, api.ErrWidth},
		{0, 9, 0, api.ErrWidth},
		{0, -1, 0, api.ErrWidth},
		{-1, 9, 0, api.ErrWidth},
		{-1, 1, 0, api.ErrShort},
		{2, 8, 0, api.ErrShort},
		{9, 1, 0, api.ErrShort},
		{math.MaxInt, 8, 0, api.ErrShort},
		{math.MinInt, 8, 0, api.ErrShort},
	} {
		if v, e := Get(b, c.at, c.size); v != c.want || e != c.e {
			t.Errorf("Get(%d, %d) = %x, %d, want %x, %d", c.at, c.size, v, e, c.want, c.e)
		}
	}
	if v, e := Get(nil, 0, 1); v != 0 || e != api.ErrShort {
		t.Errorf("R3: Get(nil) = %d, %d", v, e)
	}
	if v, e := Get(b[:2], 1, 2); v != 0 || e != api.ErrShort {
		t.Errorf("Get of spare room = %d, %d", v, e)
	}
}

func TestW2Join(t *testing.T) {
	for _, c := range []struct {
		parts [][]byte
		want  []byte
	}{
		{nil, nil},
		{[][]byte{nil}, nil},
		{[][]byte{{}, nil, {}}, nil},
		{[][]byte{{7}}, []byte{7}},
		{[][]byte{{1}, {}, {2, 3}}, []byte{1, 2, 3}},
		{[][]byte{{9, 8}, nil, {7}, {6, 5, 4}}, []byte{9, 8, 7, 6, 5, 4}},
	} {
		if got := Join(c.parts...); !bytes.Equal(got, c.want) {
			t.Errorf("Join(%v) = %v, want %v", c.parts, got, c.want)
		}
	}
}

func TestR4JoinIsNewMemory(t *testing.T) {
	room := []byte{1, 2, 3, 4}
	parts := [][]byte{room[:2], {5}}
	got := Join(parts...)
	if !bytes.Equal(room, []byte{1, 2, 3, 4}) {
		t.Errorf("Join wrote into spare room: %v", room)
	}
	one := Join(room[:2])
	one[0] = 99
	_ = append(one, 98)
	got[0] = 97
	if !bytes.Equal(room, []byte{1, 2, 3, 4}) || !bytes.Equal(parts[1], []byte{5}) {
		t.Errorf("Join's answer shares memory: %v, %v", room, parts[1])
	}
}

func TestW3Zeros(t *testing.T) {
	for x := range 256 {
		want := 0
		for k := range 8 {
			want += 1 - x>>k&1
		}
		if n := Zeros([]byte{byte(x)}); n != want {
			t.Errorf("Zeros of the byte %02x: %d, want %d", x, n, want)
		}
	}
	if n := Zeros([]byte{255, 254, 0}); n != 9 {
		t.Errorf("Zeros([255 254 0]) = %d", n)
	}
	if Zeros(nil) != 0 || Zeros([]byte{}) != 0 {
		t.Error("Zeros of no bytes is not 0")
	}
}

func TestW3Flip(t *testing.T) {
	for bit := range 40 {
		b := some(2, 5)
		if e := Flip(b, bit); e != api.OK {
			t.Fatalf("Flip(%d): %d", bit, e)
		}
		for n := range 40 {
			if turned := bitOf(b, n) != bitOf(some(2, 5), n); turned != (n == bit) {
				t.Errorf("Flip(%d): the bit %d is turned round: %v", bit, n, turned)
			}
		}
	}
	for _, bit := range []int{40, 41, -1, -8, math.MaxInt, math.MinInt} {
		b := some(2, 5)
		if e := Flip(b, bit); e != api.ErrShort || !bytes.Equal(b, some(2, 5)) {
			t.Errorf("Flip(%d): %d, % x", bit, e, b)
		}
	}
	if e := Flip(nil, 0); e != api.ErrShort {
		t.Errorf("R3: Flip(nil, 0): %d", e)
	}
	if b := []byte{1, 2}; Flip(b[:1], 8) != api.ErrShort || b[1] != 2 {
		t.Errorf("Flip in spare room: %v", b)
	}
}

// masks tells masks that are shorter, as long, and longer than n bytes.
func masks(n int) [][]byte {
	return [][]byte{nil, {}, some(3, n/2), some(4, n), some(5, n+3)}
}

func maskBit(mask []byte, fill byte, n int) byte {
	if n/8 < len(mask) {
		return bitOf(mask, n)
	}
	return fill >> (n % 8) & 1
}

func TestW4FallBitByBit(t *testing.T) {
	old, want := some(6, 64), some(7, 64)
	for _, mask := range masks(64) {
		for _, fill := range []byte{0, 255, 0x5A} {
			got, e := Fall(old, want, mask, fill)
			if e != api.OK || len(got) != 64 {
				t.Fatalf("Fall: %d bytes, %d", len(got), e)
			}
			for n := range 8 * 64 {
				falls := bitOf(want, n) == 0 && maskBit(mask, fill, n) == 1
				if isZero := bitOf(old, n) == 0 || falls; (bitOf(got, n) == 0) != isZero {
					t.Fatalf("Fall with a mask of %d bytes, fill %x: the bit %d is %d", len(mask), fill, n, bitOf(got, n))
				}
			}
		}
	}
}

func TestW4FallEdges(t *testing.T) {
	for _, c := range []struct {
		old, want, mask []byte
		fill            byte
		out             []byte
		e               api.Errno
	}{
		{[]byte{255, 255}, []byte{0, 15}, []byte{1}, 255, []byte{254, 15}, api.OK},
		{[]byte{254}, []byte{1}, nil, 255, []byte{0}, api.OK},
		{nil, []byte{}, nil, 255, nil, api.OK},
		{nil, nil, []byte{1, 2, 3}, 255, nil, api.OK},
		{[]byte{1}, nil, nil, 0, nil, api.ErrShort},
		{nil, []byte{1}, nil, 0, nil, api.ErrShort},
		{[]byte{1, 2}, []byte{1}, []byte{255, 255}, 255, nil, api.ErrShort},
	} {
		if got, e := Fall(c.old, c.want, c.mask, c.fill); e != c.e || !bytes.Equal(got, c.out) {
			t.Errorf("Fall(%v, %v, %v, %d) = %v, %d, want %v, %d", c.old, c.want, c.mask, c.fill, got, e, c.out, c.e)
		}
	}
}

func TestW4RiseBitByBit(t *testing.T) {
	old := some(8, 64)
	for _, mask := range masks(64) {
		for _, fill := range []byte{0, 255, 0x5A} {
			got := Rise(old, mask, fill)
			if len(got) != 64 {
				t.Fatalf("Rise: %d bytes", len(got))
			}
			for n := range 8 * 64 {
				if bitOf(got, n) != bitOf(old, n)|maskBit(mask, fill, n) {
					t.Fatalf("Rise with a mask of %d bytes, fill %x: the bit %d is %d", len(mask), fill, n, bitOf(got, n))
				}
			}
		}
	}
	if got := Rise([]byte{0, 1}, []byte{3}, 128); !bytes.Equal(got, []byte{3, 129}) {
		t.Errorf("Rise([0 1], [3], 128) = %v", got)
	}
	if got := Rise(nil, []byte{1}, 255); len(got) != 0 {
		t.Errorf("Rise of no bytes: %v", got)
	}
}

func TestR4FallAndRiseAreNewMemory(t *testing.T) {
	old, want, mask := some(9, 8), some(10, 8), some(11, 4)
	fallen, _ := Fall(old[:6], want[:6], mask[:3], 255)
	risen := Rise(old[:6], mask[:3], 255)
	for _, got := range [][]byte{fallen, risen} {
		for i := range got {
			got[i] ^= 255
		}
		_ = append(got, 1, 2)
	}
	if !bytes.Equal(old, some(9, 8)) || !bytes.Equal(want, some(10, 8)) || !bytes.Equal(mask, some(11, 4)) {
		t.Error("Fall or Rise changed what was handed in, or shares memory with it")
	}
}

// slowSum follows the words of W5 step by step.
func slowSum(b []byte) uint32 {
	register := uint32(0xFFFFFFFF)
	for _, x := range b {
		register ^= uint32(x)
		for range 8 {
			low := register & 1
			register /= 2
			if low == 1 {
				register ^= 0xEDB88320
			}
		}
	}
	return register ^ 0xFFFFFFFF
}

func TestW5Sum(t *testing.T) {
	if s := Sum([]byte("123456789")); s != 0xCBF43926 {
		t.Errorf("Sum of 123456789: %08X", s)
	}
	if Sum(nil) != 0 || Sum([]byte{}) != 0 {
		t.Error("Sum of no bytes is not 0")
	}
	for x := range 256 {
		if b := []byte{byte(x)}; Sum(b) != slowSum(b) {
			t.Errorf("Sum of the byte %02x: %08x, want %08x", x, Sum(b), slowSum(b))
		}
	}
	for n := range 300 {
		b := some(int64(n), n)
		if s := Sum(b); s != slowSum(b) || s != crc32.ChecksumIEEE(b) {
			t.Errorf("Sum of %d bytes: %08x, want %08x", n, s, slowSum(b))
		}
	}
}

func TestW6Hex(t *testing.T) {
	for x := range 256 {
		want := string([]byte{"0123456789abcdef"[x/16], "0123456789abcdef"[x%16]})
		if s := Hex([]byte{byte(x)}); s != want {
			t.Errorf("Hex of %d: %q, want %q", x, s, want)
		}
	}
	if s := Hex([]byte{0, 171}); s != "00ab" {
		t.Errorf("Hex([0 171]) = %q", s)
	}
	if Hex(nil) != "" || Hex([]byte{}) != "" {
		t.Error("Hex of no bytes is not empty")
	}
}

func TestW6Unhex(t *testing.T) {
	for x := range 256 {
		place := strings.IndexByte("0123456789abcdef", byte(x))
		for _, s := range []string{string([]byte{byte(x), '7'}), string([]byte{'7', byte(x)})} {
			b, e := Unhex(s)
			want := []byte{byte(place<<4 | 7)}
			if s[0] == '7' {
				want = []byte{byte(7<<4 | place)}
			}
			if place < 0 && (e != api.ErrDigits || len(b) != 0) {
				t.Errorf("Unhex(%q) = %v, %d, want ErrDigits", s, b, e)
			}
			if place >= 0 && (e != api.OK || !bytes.Equal(b, want)) {
				t.Errorf("Unhex(%q) = %v, %d, want %v", s, b, e, want)
			}
		}
	}
	for _, s := range []string{"0", "000", "0G", "AB", "aB", "0x12", " 00", "00 ", "00\n", "é", "00zz", "zz00"} {
		if b, e := Unhex(s); e != api.ErrDigits || b != nil {
			t.Errorf("Unhex(%q) = %v, %d, want ErrDigits and nil", s, b, e)
		}
	}
	if b, e := Unhex(""); e != api.OK || len(b) != 0 {
		t.Errorf("Unhex of nothing: %v, %d", b, e)
	}
}

func TestW7WhatIsPutIsGot(t *testing.T) {
	for size := 1; size <= 8; size++ {
		greatest := uint64(math.MaxUint64) >> (64 - 8*size)
		for _, v := range []uint64{0, 1, 255, greatest / 3, greatest - 1, greatest} {
			b := some(12, 11)
			if e := Put(b, 3, size, v); e != api.OK {
				t.Fatalf("Put(%d, %d): %d", size, v, e)
			}
			if got, e := Get(b, 3, size); got != v || e != api.OK {
				t.Errorf("put %d in %d bytes, got %d, %d", v, size, got, e)
			}
		}
	}
}

func TestW8OneWay(t *testing.T) {
	for seed := range int64(50) {
		old, want, mask := some(seed, 16), some(seed+100, 16), some(seed+200, 12)
		fallen, _ := Fall(old, want, mask, byte(seed))
		risen := Rise(old, mask, byte(seed))
		for i := range old {
			if fallen[i]&^old[i] != 0 {
				t.Errorf("Fall has a 1 where old has a 0: %02x, %02x", fallen[i], old[i])
			}
			if old[i]&^risen[i] != 0 {
				t.Errorf("Rise has a 0 where old has a 1: %02x, %02x", risen[i], old[i])
			}
		}
	}
}

func TestW8WholeMasks(t *testing.T) {
	ones := bytes.Repeat([]byte{255}, 16)
	for seed := range int64(50) {
		old, want := some(seed, 16), some(seed+100, 16)
		if got, _ := Fall(ones, want, nil, 255); !bytes.Equal(got, want) {
			t.Errorf("a mask of ones over ones: % x, want % x", got, want)
		}
		if got, _ := Fall(ones, want, ones, 0); !bytes.Equal(got, want) {
			t.Errorf("a mask of ones, byte by byte: % x, want % x", got, want)
		}
		if got, _ := Fall(old, want, nil, 0); !bytes.Equal(got, old) {
			t.Errorf("a mask of zeros: % x, want % x", got, old)
		}
	}
}

func TestW8ZerosOfFall(t *testing.T) {
	// All masks over one byte: none, some or all of want's zeros fall.
	for want := range 256 {
		for mask := range 256 {
			got, _ := Fall([]byte{255}, []byte{byte(want)}, []byte{byte(mask)}, 0)
			n, all := Zeros(got), Zeros([]byte{byte(want)})
			if n > all || (n == all) != (got[0] == byte(want)) {
				t.Fatalf("want %02x, mask %02x: %02x has %d zeros of %d", want, mask, got[0], n, all)
			}
		}
	}
}

func TestW9SumIsLinear(t *testing.T) {
	for n := range 100 {
		a, b, c := some(int64(n), n), some(int64(n)+1000, n), some(int64(n)+2000, n)
		x := make([]byte, n)
		for i := range x {
			x[i] = a[i] ^ b[i] ^ c[i]
		}
		if Sum(x) != Sum(a)^Sum(b)^Sum(c) {
			t.Errorf("three texts of %d bytes: %08x, %08x", n, Sum(x), Sum(a)^Sum(b)^Sum(c))
		}
	}
}

func TestW10UnhexOfHex(t *testing.T) {
	for n := range 300 {
		b := some(int64(n), n)
		if got, e := Unhex(Hex(b)); e != api.OK || !bytes.Equal(got, b) {
			t.Errorf("%d bytes: % x, %d", n, got, e)
		}
	}
}

func TestR4NothingElseIsChanged(t *testing.T) {
	b := some(13, 20)
	view := b[:10]
	Zeros(view)
	Sum(view)
	Hex(view)
	Get(view, 2, 8)
	if !bytes.Equal(b, some(13, 20)) {
		t.Error("a call that only looks changed what was handed in")
	}
}
