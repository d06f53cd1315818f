package rail

import (
	"bytes"
	"math"
	"math/bits"
	"math/rand"
	"slices"
	"testing"

	"shale/api"
)

// some tells n bytes that are the same in each run of the tests.
func some(seed int64, n int) []byte {
	b := make([]byte, n)
	rand.New(rand.NewSource(seed)).Read(b)
	return b
}

// layOK is Lay of what may be laid.
func layOK(t *testing.T, b []byte) []byte {
	t.Helper()
	l, e := Lay(b)
	if e != api.OK {
		t.Fatalf("Lay of %d bytes: %d", len(b), e)
	}
	return l
}

// slowLay follows the chapter's words bit by bit.
func slowLay(b []byte) []byte {
	var sum byte
	for _, x := range b {
		sum ^= x
	}
	var laid []byte
	for _, x := range append(slices.Clone(b), sum) {
		for _, half := range []byte{x % 16, x / 16} {
			var y byte
			for k := range 4 {
				if half>>k&1 == 1 {
					y += 1 << (2 * k)
				} else {
					y += 1 << (2*k + 1)
				}
			}
			laid = append(laid, y)
		}
	}
	return laid
}

func turn(b []byte, bit int) { b[bit/8] ^= 1 << (bit % 8) }

func apart(a, b []byte) int {
	n := 0
	for i := range a {
		n += bits.OnesCount8(a[i] ^ b[i])
	}
	return n
}

func refused(t *testing.T, b []byte, want api.Errno, what string) {
	t.Helper()
	if got, pair, e := Read(b); e != want || pair != 0 || got != nil {
		t.Fatalf("%s: Read(% x) = % x, %d, %d, want the error %d alone", what, b, got, pair, e, want)
	}
}

func TestP31Size(t *testing.T) {
	for n := range 4096 {
		if size, e := Size(n); size != 2*(n+1) || e != api.OK {
			t.Errorf("Size(%d) = %d, %d", n, size, e)
		}
	}
	for _, n := range []int{-1, -4095, 4096, 8192, math.MinInt, math.MaxInt} {
		if size, e := Size(n); size != 0 || e != api.ErrLength {
			t.Errorf("Size(%d) = %d, %d, want ErrLength", n, size, e)
		}
	}
}

func TestP31LayExamples(t *testing.T) {
	for _, c := range []struct{ b, want []byte }{
		{nil, []byte{0xAA, 0xAA}},
		{[]byte{}, []byte{0xAA, 0xAA}},
		{[]byte{0x01}, []byte{0xA9, 0xAA, 0xA9, 0xAA}},
		{[]byte{0xA5}, []byte{0x99, 0x66, 0x99, 0x66}},
		{[]byte{0x0F, 0xF0}, []byte{0x55, 0xAA, 0xAA, 0x55, 0x55, 0x55}},
	} {
		if got := layOK(t, c.b); !bytes.Equal(got, c.want) {
			t.Errorf("Lay(% x) = % x, want % x", c.b, got, c.want)
		}
	}
}

func TestP31LayBitByBit(t *testing.T) {
	for x := range 256 {
		b := []byte{byte(x), 0x3C}
		if got := layOK(t, b); !bytes.Equal(got, slowLay(b)) {
			t.Errorf("Lay(% x) = % x, want % x", b, got, slowLay(b))
		}
	}
	for _, n := range []int{2, 3, 26, 255, 4094, 4095} {
		got := layOK(t, some(1, n))
		if size, _ := Size(n); len(got) != size || !bytes.Equal(got, slowLay(some(1, n))) {
			t.Errorf("Lay of %d bytes: %d bytes", n, len(got))
		}
		for i, y := range got {
			if bits.OnesCount8(y) != 4 {
				t.Errorf("Lay of %d bytes: the byte %d is %02x", n, i, y)
			}
		}
	}
	for _, n := range []int{4096, 5000} {
		if got, e := Lay(make([]byte, n)); got != nil || e != api.ErrLength {
			t.Errorf("Lay of %d bytes: %d bytes, %d, want ErrLength", n, len(got), e)
		}
	}
}

func TestP32Examples(t *testing.T) {
	for _, c := range []struct {
		b, want []byte
		pair    int
	}{
		{[]byte{0xA9, 0xAA, 0xA9, 0xAA}, []byte{1}, -1},
		{[]byte{0xA8, 0xAA, 0xA9, 0xAA}, []byte{1}, 0},
		{[]byte{0xAB, 0xAA, 0xA9, 0xAA}, []byte{1}, 0},
		{[]byte{0xA9, 0xAA, 0xA9, 0x8A}, []byte{1}, 14},
		{[]byte{0xAB, 0xAA}, nil, 0},
		{[]byte{0xAA, 0xAA}, nil, -1},
	} {
		if got, pair, e := Read(c.b); e != api.OK || pair != c.pair || !bytes.Equal(got, c.want) {
			t.Errorf("Read(% x) = % x, %d, %d, want % x, %d", c.b, got, pair, e, c.want, c.pair)
		}
	}
	refused(t, []byte{0xAB, 0xAA, 0xAB, 0xAA}, api.ErrRail, "two broken pairs")
	refused(t, []byte{0xAA, 0xAA, 0xA9, 0xAA}, api.ErrRail, "columns that do not agree")
	refused(t, []byte{0xAB, 0xAA, 0x9A, 0xAA}, api.ErrRail, "a broken pair, and another column that does not agree")
	refused(t, []byte{0xFF, 0xFF}, api.ErrRail, "ones")
	refused(t, []byte{0, 0}, api.ErrRail, "zeros")
}

func TestP32Lengths(t *testing.T) {
	refused(t, nil, api.ErrLength, "nil")
	refused(t, []byte{}, api.ErrLength, "no bytes")
	for _, n := range []int{1, 3, 5, 8191, 8193, 8194, 20000} {
		refused(t, bytes.Repeat([]byte{0xAA}, n), api.ErrLength, "a length that may not be")
	}
	for _, n := range []int{2, 4, 8190, 8192} {
		b := bytes.Repeat([]byte{0xAA}, n)
		if got, pair, e := Read(b); e != api.OK || pair != -1 || len(got) != n/2-1 {
			t.Errorf("Read of %d bytes: %d bytes, %d, %d", n, len(got), pair, e)
		}
	}
}

// slowRead tries all layings that are at most one bit away: what chapter 3 says in P3.2 and P3.7, asked the other way round.
func slowRead(b []byte) ([]byte, int, bool) {
	if rows, ok := slowLift(b); ok {
		return rows, -1, true
	}
	for bit := range 8 * len(b) {
		c := slices.Clone(b)
		turn(c, bit)
		if rows, ok := slowLift(c); ok {
			return rows, bit / 2, true
		}
	}
	return nil, 0, false
}

// slowLift tells the bytes of which b is just the laying.
func slowLift(b []byte) ([]byte, bool) {
	var rows []byte
	for i := 0; i < len(b)-2; i += 2 {
		var x byte
		for k := range 8 {
			x |= b[i+k/4] >> (2 * (k % 4)) & 1 << k
		}
		rows = append(rows, x)
	}
	return rows, bytes.Equal(slowLay(rows), b)
}

func heldAgainstSlowRead(t *testing.T, b []byte) {
	t.Helper()
	want, at, ok := slowRead(b)
	got, pair, e := Read(b)
	if ok && (e != api.OK || pair != at || !bytes.Equal(got, want)) {
		t.Fatalf("Read(% x) = % x, %d, %d, want % x, %d", b, got, pair, e, want, at)
	}
	if !ok && (e != api.ErrRail || pair != 0 || got != nil) {
		t.Fatalf("Read(% x) = % x, %d, %d, want ErrRail", b, got, pair, e)
	}
}

func TestP32AndP37HeldAgainstAllLayings(t *testing.T) {
	for x := range 1 << 16 {
		heldAgainstSlowRead(t, []byte{byte(x), byte(x >> 8)})
	}
	random := rand.New(rand.NewSource(1))
	for seed := range int64(5000) {
		b := slowLay(some(seed, 1+random.Intn(6)))
		for range random.Intn(5) {
			turn(b, random.Intn(8*len(b)))
		}
		heldAgainstSlowRead(t, b)
	}
}

func TestP33NewMemory(t *testing.T) {
	room := some(2, 12)
	l, _ := Lay(room[:8])
	if !bytes.Equal(room, some(2, 12)) {
		t.Fatal("Lay changed what was handed in")
	}
	laid := append(slices.Clone(l), 7, 7, 7)
	for i := range l {
		l[i] ^= 255
	}
	_ = append(l, 1, 2, 3)
	if !bytes.Equal(room, some(2, 12)) {
		t.Error("what Lay tells shares memory with what was handed in")
	}
	for bit := -1; bit < 8*18; bit++ { // none turned, each one turned
		b := slices.Clone(laid)
		if bit >= 0 {
			turn(b, bit)
		}
		before := slices.Clone(b)
		got, _, e := Read(b[:18])
		if e != api.OK || !bytes.Equal(got, room[:8]) {
			t.Fatalf("Read with the bit %d turned: % x, %d", bit, got, e)
		}
		for i := range got {
			got[i] ^= 255
		}
		_ = append(got, 1, 2, 3)
		if !bytes.Equal(b, before) {
			t.Fatalf("Read with the bit %d turned changed what was handed in, or shares memory with it", bit)
		}
	}
}

func TestP33NoneIsKept(t *testing.T) {
	b := []byte{1, 2, 3}
	l := layOK(t, b)
	rows, _, _ := Read(l)
	want := slices.Clone(l)
	b[0] = 99
	if !bytes.Equal(l, want) {
		t.Error("Lay keeps what was handed in")
	}
	l[0] = 0
	if !bytes.Equal(rows, []byte{1, 2, 3}) {
		t.Error("Read keeps what was handed in")
	}
}

func TestP34ThereAndBack(t *testing.T) {
	for _, n := range []int{0, 1, 2, 26, 100} {
		b := some(int64(n), n)
		l := layOK(t, b)
		if got, pair, e := Read(l); e != api.OK || pair != -1 || !bytes.Equal(got, b) {
			t.Errorf("%d bytes: % x, %d, %d", n, got, pair, e)
		}
		for bit := range 8 * len(l) {
			turn(l, bit)
			if got, pair, e := Read(l); e != api.OK || pair != bit/2 || !bytes.Equal(got, b) {
				t.Errorf("%d bytes, the bit %d turned: % x, %d, %d", n, bit, got, pair, e)
			}
			turn(l, bit)
		}
	}
	b := some(5, 4095)
	l := layOK(t, b)
	for _, bit := range []int{0, 1, 32767, 32768, 65534, 65535} {
		turn(l, bit)
		if got, pair, e := Read(l); e != api.OK || pair != bit/2 || !bytes.Equal(got, b) {
			t.Errorf("4095 bytes, the bit %d turned: %d, %d", bit, pair, e)
		}
		turn(l, bit)
	}
}

func TestP35Two(t *testing.T) {
	for _, n := range []int{0, 1, 2, 26} {
		l := layOK(t, some(int64(n), n))
		for bit := range 8 * len(l) {
			turn(l, bit)
			for other := range bit {
				turn(l, other)
				refused(t, l, api.ErrRail, "two bits turned")
				turn(l, other)
			}
			turn(l, bit)
		}
	}
}

// ofValue tells the bits of b that have a value.
func ofValue(b []byte, value byte) []int {
	var list []int
	for bit := range 8 * len(b) {
		if b[bit/8]>>(bit%8)&1 == value {
			list = append(list, bit)
		}
	}
	return list
}

func TestP36OneWay(t *testing.T) {
	for _, b := range [][]byte{nil, {0x00}, {0xA5}, {0xFF}, {0x37}} { // all choices of bits
		l := layOK(t, b)
		for value := range byte(2) {
			list := ofValue(l, value)
			for choice := range 1 << len(list) {
				if bits.OnesCount(uint(choice)) < 2 {
					continue
				}
				c := slices.Clone(l)
				for k, bit := range list {
					if choice>>k&1 == 1 {
						turn(c, bit)
					}
				}
				refused(t, c, api.ErrRail, "bits that went one way")
			}
		}
	}
}

func TestP36PowerCut(t *testing.T) {
	random := rand.New(rand.NewSource(2))
	ones := bytes.Repeat([]byte{255}, 54)
	meant := 0
	for seed := range int64(5000) {
		b := some(seed, 26)
		l := layOK(t, b)
		missing := ofValue(l, 0)
		random.Shuffle(len(missing), func(i, j int) { missing[i], missing[j] = missing[j], missing[i] })
		if seed%2 == 0 {
			missing = missing[:random.Intn(4)]
		} else {
			missing = missing[:random.Intn(len(missing)+1)]
		}
		for _, bit := range missing {
			turn(l, bit)
		}
		got, _, e := Read(l)
		if e == api.OK && bytes.Equal(got, b) {
			meant++
		} else if e != api.ErrRail {
			t.Fatalf("%d zeros missing: read as % x, %d", len(missing), got, e)
		}
	}
	refused(t, ones, api.ErrRail, "blank")
	if meant < 100 {
		t.Errorf("only %d were read: nothing is shown", meant)
	}
}

func TestP37JustOne(t *testing.T) {
	random := rand.New(rand.NewSource(3))
	for seed := range int64(5000) {
		b := slowLay(some(seed, random.Intn(30)))
		for range random.Intn(7) {
			turn(b, random.Intn(8*len(b)))
		}
		got, pair, e := Read(b)
		if e != api.OK {
			continue
		}
		l := slowLay(got)
		if pair == -1 && !bytes.Equal(l, b) {
			t.Fatalf("read as % x without a wrong bit, laid as % x", got, l)
		}
		if pair >= 0 && (apart(l, b) != 1 || (l[pair/4]^b[pair/4])>>(2*(pair%4))&3 == 0) {
			t.Fatalf("read as % x with the pair %d, laid as % x, handed in % x", got, pair, l, b)
		}
	}
}

func TestP38FarApart(t *testing.T) {
	for x := range 256 {
		for y := range x {
			if n := apart(layOK(t, []byte{byte(x)}), layOK(t, []byte{byte(y)})); n < 4 {
				t.Fatalf("%02x and %02x are laid %d bits apart", x, y, n)
			}
		}
	}
	// One bit, and two bits of one column, are the nearest that longer rows come to one another.
	b := some(4, 26)
	l := layOK(t, b)
	for bit := range 8 * len(b) {
		c := slices.Clone(b)
		turn(c, bit)
		if n := apart(l, layOK(t, c)); n != 4 {
			t.Fatalf("rows one bit apart are laid %d bits apart", n)
		}
		turn(c, (bit+8)%(8*len(b)))
		if n := apart(l, layOK(t, c)); n != 4 {
			t.Fatalf("rows two bits of one column apart are laid %d bits apart", n)
		}
	}
}
