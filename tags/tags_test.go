package tags

import (
	"bytes"
	"math"
	"math/rand"
	"slices"
	"testing"

	"shale/api"
	"shale/rail"
)

// some tells n bytes that are the same in each run of the tests.
func some(seed int64, n int) []byte {
	b := make([]byte, n)
	rand.New(rand.NewSource(seed)).Read(b)
	return b
}

func turn(b []byte, bit int) { b[bit/8] ^= 1 << (bit % 8) }

// example is that of the chapter.
func example() (api.Tags, []byte) {
	return api.Tags{Kind: 3, Flags: 2, Serial: 258, Begin: 7, Object: 9, Chunk: 1, Count: 300, Zeros: 4000},
		[]byte{3, 2, 2, 1, 0, 0, 0, 0, 7, 0, 0, 0, 0, 0, 9, 0, 0, 0, 1, 0, 0, 0, 0x2C, 1, 0xA0, 0x0F}
}

// row is one of the chapter's table of the 26 bytes, with how a test sets the field and asks it.
type row struct {
	name     string
	at, size int
	set      func(*api.Tags, uint64)
	get      func(api.Tags) uint64
}

func table() []row {
	return []row{
		{"Kind", 0, 1, func(t *api.Tags, v uint64) { t.Kind = int(v) }, func(t api.Tags) uint64 { return uint64(t.Kind) }},
		{"Flags", 1, 1, func(t *api.Tags, v uint64) { t.Flags = int(v) }, func(t api.Tags) uint64 { return uint64(t.Flags) }},
		{"Serial", 2, 6, func(t *api.Tags, v uint64) { t.Serial = v }, func(t api.Tags) uint64 { return t.Serial }},
		{"Begin", 8, 6, func(t *api.Tags, v uint64) { t.Begin = v }, func(t api.Tags) uint64 { return t.Begin }},
		{"Object", 14, 4, func(t *api.Tags, v uint64) { t.Object = int(v) }, func(t api.Tags) uint64 { return uint64(t.Object) }},
		{"Chunk", 18, 4, func(t *api.Tags, v uint64) { t.Chunk = int(v) }, func(t api.Tags) uint64 { return uint64(t.Chunk) }},
		{"Count", 22, 2, func(t *api.Tags, v uint64) { t.Count = int(v) }, func(t api.Tags) uint64 { return uint64(t.Count) }},
		{"Zeros", 24, 2, func(t *api.Tags, v uint64) { t.Zeros = int(v) }, func(t api.Tags) uint64 { return uint64(t.Zeros) }},
	}
}

// someTags are tags of which each field fits its bytes.
func someTags(r *rand.Rand) api.Tags {
	var t api.Tags
	for _, f := range table() {
		f.set(&t, r.Uint64()>>(64-8*f.size))
	}
	return t
}

// slowPack follows the chapter's table, a byte at a time.
func slowPack(t api.Tags) []byte {
	b := make([]byte, 26)
	for _, f := range table() {
		for k, v := 0, f.get(t); k < f.size; k, v = k+1, v/256 {
			b[f.at+k] = byte(v % 256)
		}
	}
	return b
}

func packOK(t *testing.T, g api.Tags) []byte {
	t.Helper()
	b, e := Pack(g)
	if e != api.OK {
		t.Fatalf("Pack(%v): %d", g, e)
	}
	return b
}

func layOK(t *testing.T, g api.Tags) []byte {
	t.Helper()
	l, e := Lay(g)
	if e != api.OK || len(l) != 54 {
		t.Fatalf("Lay(%v): %d bytes, %d", g, len(l), e)
	}
	return l
}

func TestP62Example(t *testing.T) {
	g, want := example()
	if b := packOK(t, g); !bytes.Equal(b, want) {
		t.Errorf("Pack(%v) = % x, want % x", g, b, want)
	}
	if b := packOK(t, api.Tags{}); !bytes.Equal(b, make([]byte, 26)) {
		t.Errorf("Pack of no tags = % x", b)
	}
}

func TestP62EachFieldInItsBytes(t *testing.T) {
	for _, f := range table() {
		most := uint64(math.MaxUint64) >> (64 - 8*f.size)
		for _, v := range []uint64{0, 1, 255, most / 3, most - 1, most} {
			var g api.Tags
			f.set(&g, v)
			if b := packOK(t, g); !bytes.Equal(b, slowPack(g)) {
				t.Errorf("Pack with %s %d = % x, want % x", f.name, v, b, slowPack(g))
			}
		}
	}
	r := rand.New(rand.NewSource(1))
	for range 2000 {
		g := someTags(r)
		if b := packOK(t, g); !bytes.Equal(b, slowPack(g)) {
			t.Fatalf("Pack(%v) = % x, want % x", g, b, slowPack(g))
		}
	}
}

func TestP62FieldsThatDoNotFit(t *testing.T) {
	minus := uint64(math.MaxUint64) // -1, where the field is an int
	for _, f := range table() {
		most := uint64(math.MaxUint64) >> (64 - 8*f.size)
		for _, v := range []uint64{most + 1, most + 2, 2*most + 1, 1 << 62, 1 << 63, minus - 1, minus} {
			for _, others := range []api.Tags{{}, first(example())} {
				g := others
				f.set(&g, v)
				if b, e := Pack(g); b != nil || e != api.ErrField {
					t.Errorf("Pack with %s %x = % x, %d, want ErrField", f.name, v, b, e)
				}
				if l, e := Lay(g); l != nil || e != api.ErrField {
					t.Errorf("Lay with %s %x = % x, %d, want ErrField", f.name, v, l, e)
				}
			}
		}
	}
}

func first(t api.Tags, _ []byte) api.Tags { return t }

func TestP63Read(t *testing.T) {
	want, b := example()
	if g, e := Read(b); g != want || e != api.OK {
		t.Errorf("Read(% x) = %v, %d", b, g, e)
	}
	all := api.Tags{Kind: 255, Flags: 255, Serial: 1<<48 - 1, Begin: 1<<48 - 1, Object: 1<<32 - 1, Chunk: 1<<32 - 1, Count: 65535, Zeros: 65535}
	if g, e := Read(bytes.Repeat([]byte{255}, 26)); g != all || e != api.OK {
		t.Errorf("Read of bytes 255 = %v, %d", g, e)
	}
	for seed := range int64(2000) {
		b := some(seed, 26)
		g, e := Read(b)
		if e != api.OK {
			t.Fatalf("Read(% x): %d", b, e)
		}
		for _, f := range table() {
			want := uint64(0)
			for k := f.size - 1; k >= 0; k-- {
				want = want*256 + uint64(b[f.at+k])
			}
			if f.get(g) != want {
				t.Fatalf("Read(% x): %s is %d, want %d", b, f.name, f.get(g), want)
			}
		}
	}
}

func TestP63OtherLengths(t *testing.T) {
	for _, b := range [][]byte{nil, {}, some(1, 1), some(1, 25), some(1, 27), some(1, 54), some(1, 5000), some(1, 30)[:25]} {
		if g, e := Read(b); g != (api.Tags{}) || e != api.ErrTags {
			t.Errorf("Read of %d bytes = %v, %d, want ErrTags", len(b), g, e)
		}
	}
}

func TestP64Lay(t *testing.T) {
	r := rand.New(rand.NewSource(2))
	for range 500 {
		g := someTags(r)
		want, _ := rail.Lay(slowPack(g))
		if l := layOK(t, g); !bytes.Equal(l, want) {
			t.Fatalf("Lay(%v) = % x, want % x", g, l, want)
		}
	}
}

func liftRefused(t *testing.T, b []byte, want api.Errno, what string) {
	t.Helper()
	if g, pair, e := Lift(b); g != (api.Tags{}) || pair != 0 || e != want {
		t.Fatalf("Lift of %s = %v, %d, %d, want the error %d alone", what, g, pair, e, want)
	}
}

func TestP64LiftRefuses(t *testing.T) {
	g, _ := example()
	l := layOK(t, g)
	for _, n := range []int{0, 1, 2, 26, 52, 53} {
		liftRefused(t, l[:n], api.ErrTags, "the first bytes of a laying")
	}
	liftRefused(t, nil, api.ErrTags, "nil")
	liftRefused(t, append(slices.Clone(l), 0xAA), api.ErrTags, "55 bytes")
	longer, _ := rail.Lay(make([]byte, 27))
	liftRefused(t, longer, api.ErrTags, "27 bytes on their rails")
	shorter, _ := rail.Lay(make([]byte, 25))
	liftRefused(t, shorter, api.ErrTags, "25 bytes on their rails")
	liftRefused(t, bytes.Repeat([]byte{255}, 54), api.ErrRail, "54 bytes 255")
	liftRefused(t, make([]byte, 54), api.ErrRail, "54 bytes 0")
	for seed := range int64(100) {
		liftRefused(t, some(seed, 54), api.ErrRail, "any 54 bytes")
	}
}

func TestP64LiftTellsThePair(t *testing.T) {
	g, _ := example()
	l := layOK(t, g)
	if got, pair, e := Lift(l); got != g || pair != -1 || e != api.OK {
		t.Errorf("Lift of a laying = %v, %d, %d", got, pair, e)
	}
	for bit := range 8 * 54 {
		turn(l, bit)
		if got, pair, e := Lift(l); got != g || pair != bit/2 || e != api.OK {
			t.Errorf("Lift with the bit %d turned = %v, %d, %d", bit, got, pair, e)
		}
		turn(l, bit)
	}
}

// scribble writes into what was handed out, and behind it.
func scribble(b []byte) {
	for i := range b {
		b[i] ^= 255
	}
	_ = append(b, 1, 2, 3)
}

func TestP65NewMemory(t *testing.T) {
	g, want := example()
	for range 2 { // what is written into one answer is not in the next
		b := packOK(t, g)
		if !bytes.Equal(b, want) {
			t.Fatalf("Pack(%v) = % x", g, b)
		}
		scribble(b)
	}
	laid, _ := rail.Lay(want)
	for range 2 {
		l := layOK(t, g)
		if !bytes.Equal(l, laid) {
			t.Fatalf("Lay(%v) = % x", g, l)
		}
		scribble(l)
	}
}

func TestP65NothingIsChanged(t *testing.T) {
	_, packed := example()
	room := append(slices.Clone(packed), 7, 7, 7)
	if _, e := Read(room[:26]); e != api.OK || !bytes.Equal(room, append(slices.Clone(packed), 7, 7, 7)) {
		t.Errorf("Read: %d, and left % x", e, room)
	}
	laid, _ := rail.Lay(packed)
	for bit := -1; bit < 8*54; bit++ {
		room := append(slices.Clone(laid), 7, 7, 7)
		if bit >= 0 {
			turn(room, bit)
		}
		before := slices.Clone(room)
		if _, _, e := Lift(room[:54]); e != api.OK || !bytes.Equal(room, before) {
			t.Fatalf("Lift with the bit %d turned: %d, and left % x", bit, e, room)
		}
	}
}

func TestP66ThereAndBack(t *testing.T) {
	r := rand.New(rand.NewSource(3))
	for range 2000 {
		g := someTags(r)
		if got, e := Read(packOK(t, g)); got != g || e != api.OK {
			t.Fatalf("Read of Pack(%v) = %v, %d", g, got, e)
		}
		if got, pair, e := Lift(layOK(t, g)); got != g || pair != -1 || e != api.OK {
			t.Fatalf("Lift of Lay(%v) = %v, %d, %d", g, got, pair, e)
		}
	}
	for seed := range int64(2000) {
		b := some(seed, 26)
		g, _ := Read(b)
		if got := packOK(t, g); !bytes.Equal(got, b) {
			t.Fatalf("Pack of Read(% x) = % x", b, got)
		}
	}
}

func TestP66OneBitTurned(t *testing.T) {
	r := rand.New(rand.NewSource(4))
	for range 20 {
		g := someTags(r)
		l := layOK(t, g)
		for bit := range 8 * 54 {
			turn(l, bit)
			if got, pair, e := Lift(l); got != g || pair != bit/2 || e != api.OK {
				t.Fatalf("%v, the bit %d turned: %v, %d, %d", g, bit, got, pair, e)
			}
			turn(l, bit)
		}
	}
}

func TestP66TwoBitsTurned(t *testing.T) {
	g, _ := example()
	l := layOK(t, g)
	for bit := range 8 * 54 {
		turn(l, bit)
		for other := range bit {
			turn(l, other)
			liftRefused(t, l, api.ErrRail, "a laying with two bits turned")
			turn(l, other)
		}
		turn(l, bit)
	}
}

func TestP66BitsThatWentOneWay(t *testing.T) {
	r := rand.New(rand.NewSource(5))
	for range 2000 {
		l := layOK(t, someTags(r))
		value := byte(r.Intn(2))
		var list []int
		for bit := range 8 * 54 {
			if l[bit/8]>>(bit%8)&1 == value {
				list = append(list, bit)
			}
		}
		r.Shuffle(len(list), func(i, j int) { list[i], list[j] = list[j], list[i] })
		for _, bit := range list[:2+r.Intn(len(list)-1)] {
			turn(l, bit)
		}
		liftRefused(t, l, api.ErrRail, "a laying with bits that went one way")
	}
}
