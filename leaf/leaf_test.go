package leaf

import (
	"bytes"
	"math"
	"math/rand"
	"slices"
	"testing"

	"shale/api"
	"shale/hamming"
	"shale/tags"
)

func shape(sectors int) api.Geometry { return api.Geometry{Blocks: 8, Pages: 4, Sectors: sectors} }

// meant is what a page is built of.
type meant struct {
	g    api.Geometry
	t    api.Tags
	data []byte
}

func headMeant() meant {
	return meant{g: shape(1), t: api.Tags{Kind: api.KindHead, Serial: 5, Begin: 5}}
}

func helloMeant() meant {
	t := api.Tags{Kind: api.KindData, Flags: api.FlagCut, Serial: 9, Begin: 3, Object: 2, Chunk: 1, Count: 5}
	return meant{shape(1), t, []byte("hello")}
}

// someMeant are tags that may be, with a content of any bytes, of which in some pages nearly all bits are 1, or 0.
func someMeant(r *rand.Rand) meant {
	m := meant{g: shape(1 + r.Intn(3))}
	full := 256 * m.g.Sectors
	serial := 1 + r.Uint64()%(1<<48-1)
	m.t = api.Tags{Kind: 1 + r.Intn(4), Serial: serial, Begin: 1 + r.Uint64()%serial}
	switch m.t.Kind {
	case api.KindNode:
		m.t.Flags, m.t.Object, m.t.Count = r.Intn(2), 2+r.Intn(1<<20-2), 1+r.Intn(full)
	case api.KindData:
		m.t.Flags, m.t.Object, m.t.Chunk, m.t.Count = r.Intn(3), 2+r.Intn(1<<20-2), r.Intn(1<<20), 1+r.Intn(full)
	case api.KindSave:
		m.t.Object, m.t.Count = 1+r.Intn(9), 4+r.Intn(full-3)
		m.t.Chunk = r.Intn(m.t.Object)
		if m.t.Chunk == m.t.Object-1 {
			m.t.Flags = api.FlagEnd
		}
	}
	m.data = make([]byte, m.t.Count)
	r.Read(m.data)
	even := []int{-1, -1, 0, 255}[r.Intn(4)]
	for i := range m.data {
		if even >= 0 && r.Intn(64) > 0 {
			m.data[i] = byte(even)
		}
	}
	return m
}

func (m meant) build(t *testing.T) api.Page {
	t.Helper()
	p, e := Build(m.g, m.t, m.data)
	if e != api.OK {
		t.Fatalf("Build(%v, %v): %d", m.g, m.t, e)
	}
	return p
}

func openOK(t *testing.T, g api.Geometry, p api.Page) api.Look {
	t.Helper()
	x, e := Open(g, p)
	if e != api.OK {
		t.Fatalf("Open: %d", e)
	}
	return x
}

func zerosOf(b []byte) int {
	n := 0
	for bit := range 8 * len(b) {
		n += 1 - int(b[bit/8]>>(bit%8)&1)
	}
	return n
}

// laid follows the chapter's words: the data as it is handed in, all C bytes of it, sums and tags that fit it, but for what turn makes of the tags.
func laid(t *testing.T, g api.Geometry, tag api.Tags, full []byte, turn func(*api.Tags)) api.Page {
	t.Helper()
	var sums []byte
	for i := range g.Sectors {
		sum, e := hamming.Sum(full[256*i : 256*(i+1)])
		if e != api.OK {
			t.Fatal(e)
		}
		sums = append(sums, sum[0], sum[1], sum[2])
	}
	tag.Zeros = zerosOf(full) + zerosOf(sums)
	turn(&tag)
	rails, e := tags.Lay(tag)
	if e != api.OK {
		t.Fatalf("Lay(%v): %d", tag, e)
	}
	return api.Page{Data: slices.Clone(full), Spare: append(rails, sums...)}
}

func asIs(*api.Tags) {}

// full is the content, then bytes 255.
func (m meant) full() []byte {
	b := bytes.Repeat([]byte{255}, 256*m.g.Sectors)
	copy(b, m.data)
	return b
}

func samePage(p, q api.Page) bool {
	return bytes.Equal(p.Data, q.Data) && bytes.Equal(p.Spare, q.Spare)
}

func clonePage(p api.Page) api.Page {
	return api.Page{Data: slices.Clone(p.Data), Spare: slices.Clone(p.Spare)}
}

// turn turns a page's bit round, numbered over its data, then its spare.
func turn(p api.Page, bit int) {
	if bit < 8*len(p.Data) {
		p.Data[bit/8] ^= 1 << (bit % 8)
		return
	}
	bit -= 8 * len(p.Data)
	p.Spare[bit/8] ^= 1 << (bit % 8)
}

func bitsOf(p api.Page) int { return 8 * (len(p.Data) + len(p.Spare)) }

// unitOf tells a bit's unit: its sector's number, or that of the sectors, if it is of the rails.
func unitOf(g api.Geometry, bit int) int {
	at := bit / 8
	switch {
	case at < 256*g.Sectors:
		return at / 256
	case at < 256*g.Sectors+54:
		return g.Sectors
	}
	return (at - 256*g.Sectors - 54) / 3
}

// bitsOfUnit tells all bits of a unit.
func bitsOfUnit(g api.Geometry, unit int) []int {
	if unit == g.Sectors {
		return bitsFrom(256*g.Sectors, 54)
	}
	return append(bitsFrom(256*unit, 256), bitsFrom(256*g.Sectors+54+3*unit, 3)...)
}

func bitsFrom(at, size int) []int {
	list := make([]int, 8*size)
	for i := range list {
		list[i] = 8*at + i
	}
	return list
}

// wholeAs tells whether a look is just what was meant.
func (m meant) wholeAs(x api.Look, zeros, fixed int) bool {
	t := m.t
	t.Zeros = zeros
	return x.State == api.LookWhole && x.Tags == t && bytes.Equal(x.Data, m.full()) && x.Fixed == fixed
}

func (m meant) zeros(t *testing.T) int {
	t.Helper()
	p := m.build(t)
	return zerosOf(p.Data) + zerosOf(p.Spare[54:])
}

func isBare(x api.Look, state int) bool {
	return x.State == state && x.Tags == (api.Tags{}) && len(x.Data) == 0 && x.Fixed == 0
}

func TestL1Head(t *testing.T) {
	p := headMeant().build(t)
	if !bytes.Equal(p.Data, bytes.Repeat([]byte{255}, 256)) || len(p.Spare) != 57 || !bytes.Equal(p.Spare[54:], []byte{0, 0, 0xC0}) {
		t.Errorf("the data is % x, the sum % x", p.Data, p.Spare[54:])
	}
	want := headMeant().t
	want.Zeros = 22
	if got, pair, e := tags.Lift(p.Spare[:54]); got != want || pair != -1 || e != api.OK {
		t.Errorf("the tags are %v, %d, %d", got, pair, e)
	}
}

func TestL1HeldAgainstTheWords(t *testing.T) {
	r := rand.New(rand.NewSource(1))
	for range 300 {
		m := someMeant(r)
		want := laid(t, m.g, m.t, m.full(), asIs)
		for _, zeros := range []int{0, -1, 7, 65535, math.MaxInt, math.MinInt} { // not looked at
			m.t.Zeros = zeros
			if p := m.build(t); !samePage(p, want) {
				t.Fatalf("Build(%v, %v) is another page", m.g, m.t)
			}
		}
	}
}

func TestL1FullPages(t *testing.T) {
	r := rand.New(rand.NewSource(2))
	for sectors := 1; sectors <= 8; sectors++ {
		for _, even := range []int{0, 255, -1} {
			m := meant{g: shape(sectors), t: api.Tags{Kind: api.KindData, Serial: 1<<48 - 1, Begin: 1, Object: 2, Count: 256 * sectors}}
			m.data = bytes.Repeat([]byte{byte(even)}, m.t.Count)
			if even < 0 {
				r.Read(m.data)
			}
			p := m.build(t)
			if !samePage(p, laid(t, m.g, m.t, m.data, asIs)) {
				t.Errorf("%d sectors of %d: another page", sectors, even)
			}
			if x := openOK(t, m.g, p); !m.wholeAs(x, m.zeros(t), 0) {
				t.Errorf("%d sectors of %d: %v", sectors, even, x.State)
			}
		}
	}
}

func TestL1Refuses(t *testing.T) {
	hello := helloMeant()
	field := hello.t
	field.Object = 1
	for _, c := range []struct {
		what string
		g    api.Geometry
		t    api.Tags
		data []byte
		want api.Errno
	}{
		{"no geometry", api.Geometry{}, hello.t, hello.data, api.ErrShape},
		{"9 sectors", shape(9), hello.t, hello.data, api.ErrShape},
		{"no geometry, and all else wrong", shape(0), field, nil, api.ErrShape},
		{"a field that may not be", shape(1), field, hello.data, api.ErrField},
		{"a field that may not be, and too few bytes", shape(1), field, nil, api.ErrField},
		{"no tags", shape(1), api.Tags{}, nil, api.ErrField},
		{"a byte too few", shape(1), hello.t, hello.data[:4], api.ErrPage},
		{"a byte too many", shape(1), hello.t, []byte("hello!"), api.ErrPage},
		{"no bytes", shape(1), hello.t, nil, api.ErrPage},
		{"a full page", shape(1), hello.t, make([]byte, 256), api.ErrPage},
		{"a head with bytes", shape(1), headMeant().t, []byte{255}, api.ErrPage},
	} {
		if p, e := Build(c.g, c.t, c.data); p.Data != nil || p.Spare != nil || e != c.want {
			t.Errorf("%s: %d and %d bytes, %d, want the error %d alone", c.what, len(p.Data), len(p.Spare), e, c.want)
		}
	}
	if p, e := Build(shape(1), headMeant().t, []byte{}); len(p.Data) != 256 || e != api.OK {
		t.Errorf("R3: a head with empty data: %d", e)
	}
}

func TestL2Refuses(t *testing.T) {
	p := helloMeant().build(t)
	longer := func(b []byte) []byte { return append(slices.Clone(b), 255) }
	for _, c := range []struct {
		what string
		g    api.Geometry
		p    api.Page
		want api.Errno
	}{
		{"no geometry", api.Geometry{}, p, api.ErrShape},
		{"9 sectors", shape(9), p, api.ErrShape},
		{"no geometry, no page", shape(0), api.Page{}, api.ErrShape},
		{"no page", shape(1), api.Page{}, api.ErrPage},
		{"data one too few", shape(1), api.Page{Data: p.Data[:255], Spare: p.Spare}, api.ErrPage},
		{"data one too many", shape(1), api.Page{Data: longer(p.Data), Spare: p.Spare}, api.ErrPage},
		{"spare one too few", shape(1), api.Page{Data: p.Data, Spare: p.Spare[:56]}, api.ErrPage},
		{"spare one too many", shape(1), api.Page{Data: p.Data, Spare: longer(p.Spare)}, api.ErrPage},
		{"no spare", shape(1), api.Page{Data: p.Data}, api.ErrPage},
		{"a byte of the spare in the data", shape(1), api.Page{Data: longer(p.Data), Spare: p.Spare[:56]}, api.ErrPage},
		{"a page of another geometry", shape(2), p, api.ErrPage},
	} {
		if x, e := Open(c.g, c.p); !isBare(x, 0) || e != c.want {
			t.Errorf("%s: %v, %d, want the error %d alone", c.what, x, e, c.want)
		}
	}
}

func evenPage(g api.Geometry, x byte) api.Page {
	return api.Page{Data: bytes.Repeat([]byte{x}, 256*g.Sectors), Spare: bytes.Repeat([]byte{x}, 54+3*g.Sectors)}
}

func TestL2Blank(t *testing.T) {
	for sectors := 1; sectors <= 8; sectors++ {
		g := shape(sectors)
		if x := openOK(t, g, evenPage(g, 255)); !isBare(x, api.LookBlank) {
			t.Errorf("%d sectors of ones: %v", sectors, x)
		}
		if x := openOK(t, g, evenPage(g, 0)); !isBare(x, api.LookBroken) {
			t.Errorf("%d sectors of zeros: %v", sectors, x)
		}
	}
	p := evenPage(shape(2), 255)
	for bit := range bitsOf(p) { // one bit that is 0 is enough
		turn(p, bit)
		if x := openOK(t, shape(2), p); !isBare(x, api.LookBroken) {
			t.Fatalf("ones, the bit %d turned round: %v", bit, x)
		}
		turn(p, bit)
	}
}

func TestL2Examples(t *testing.T) {
	for _, c := range []struct {
		bits         []int
		state, fixed int
	}{
		{nil, api.LookWhole, 0},
		{[]int{0}, api.LookWhole, 1},
		{[]int{0, 1}, api.LookBroken, 0},
		{[]int{0, 2048}, api.LookWhole, 2},
		{[]int{2047, 2048 + 8*54 - 1}, api.LookWhole, 2},
		{[]int{5, 2048 + 8*54}, api.LookBroken, 0}, // a sector and its sum are one unit
		{[]int{2048, 2051}, api.LookBroken, 0},
	} {
		m := headMeant()
		p := m.build(t)
		for _, bit := range c.bits {
			turn(p, bit)
		}
		x := openOK(t, m.g, p)
		if c.state == api.LookWhole && !m.wholeAs(x, 22, c.fixed) || c.state == api.LookBroken && !isBare(x, api.LookBroken) {
			t.Errorf("bits %v: %v", c.bits, x)
		}
	}
}

// Each of the four things that a whole page must have is missing once, all else being right.
func TestL2WhatIsMissing(t *testing.T) {
	m := helloMeant()
	if x := openOK(t, m.g, laid(t, m.g, m.t, m.full(), asIs)); !m.wholeAs(x, m.zeros(t), 0) {
		t.Fatalf("nothing is missing: %v", x)
	}
	for what, change := range map[string]func(*api.Tags){
		"no kind":                 func(t *api.Tags) { t.Kind = 5 },
		"another kind":            func(t *api.Tags) { t.Kind = api.KindHead },
		"flags":                   func(t *api.Tags) { t.Flags = 3 },
		"no serial":               func(t *api.Tags) { t.Serial = 0 },
		"begin above serial":      func(t *api.Tags) { t.Begin = 10 },
		"the root":                func(t *api.Tags) { t.Object = 1 },
		"count above the page":    func(t *api.Tags) { t.Count = 257 },
		"no count":                func(t *api.Tags) { t.Count = 0 },
		"a zero more":             func(t *api.Tags) { t.Zeros++ },
		"a zero less":             func(t *api.Tags) { t.Zeros-- },
		"no zeros":                func(t *api.Tags) { t.Zeros = 0 },
		"zeros above what may be": func(t *api.Tags) { t.Zeros = 2073 },
		"content behind count":    func(t *api.Tags) { t.Count = 4 },
	} {
		if x := openOK(t, m.g, laid(t, m.g, m.t, m.full(), change)); !isBare(x, api.LookBroken) {
			t.Errorf("%s: %v", what, x)
		}
	}
	for _, at := range []int{5, 6, 100, 255} {
		full := m.full()
		full[at] = 254
		if x := openOK(t, m.g, laid(t, m.g, m.t, full, asIs)); !isBare(x, api.LookBroken) {
			t.Errorf("the byte %d behind the content is 254: %v", at, x)
		}
	}
	counted := m.full()
	counted[4] = 255 // the last one that counts may be any
	if x := openOK(t, m.g, laid(t, m.g, m.t, counted, asIs)); x.State != api.LookWhole {
		t.Errorf("the last byte of the content is 255: %v", x)
	}
}

func TestL2AnyPage(t *testing.T) {
	r := rand.New(rand.NewSource(3))
	for range 300 {
		g := shape(1 + r.Intn(8))
		p := evenPage(g, 0)
		r.Read(p.Data)
		r.Read(p.Spare)
		if x := openOK(t, g, p); !isBare(x, api.LookBroken) {
			t.Fatalf("any bytes: %v", x)
		}
	}
}

func scribble(b []byte) {
	for i := range b {
		b[i] ^= 255
	}
	_ = append(b, 1, 2, 3)
}

func TestR4BuildIsNewMemory(t *testing.T) {
	r := rand.New(rand.NewSource(4))
	for range 50 {
		m := someMeant(r)
		room := append(slices.Clone(m.data), 7, 7, 7)
		before := slices.Clone(room)
		p, _ := Build(m.g, m.t, room[:m.t.Count])
		if !bytes.Equal(room, before) {
			t.Fatal("Build changed what was handed in")
		}
		kept := clonePage(p)
		scribble(room)
		if !samePage(p, kept) {
			t.Fatal("Build kept what was handed in")
		}
		room = slices.Clone(before)
		scribble(p.Data)
		if !bytes.Equal(p.Spare, kept.Spare) || !bytes.Equal(room, before) {
			t.Fatal("the data shares memory")
		}
		scribble(p.Spare)
		if again := m.build(t); !samePage(again, kept) {
			t.Fatal("Build behind a writing into its answer tells another page")
		}
	}
}

func TestR4OpenIsNewMemory(t *testing.T) {
	r := rand.New(rand.NewSource(5))
	for range 50 {
		m := someMeant(r)
		p := m.build(t)
		if r.Intn(2) == 0 {
			turn(p, r.Intn(8*len(p.Data)))
		}
		data, spare := append(slices.Clone(p.Data), 7, 7), append(slices.Clone(p.Spare), 7, 7)
		p = api.Page{Data: data[:len(p.Data)], Spare: spare[:len(p.Spare)]}
		dataBefore, spareBefore := slices.Clone(data), slices.Clone(spare)
		x := openOK(t, m.g, p)
		got := slices.Clone(x.Data)
		scribble(x.Data)
		if !bytes.Equal(data, dataBefore) || !bytes.Equal(spare, spareBefore) {
			t.Fatal("Open changed what was handed in, or its answer shares memory with it")
		}
		x = openOK(t, m.g, p)
		scribble(data)
		scribble(spare)
		if !bytes.Equal(x.Data, got) {
			t.Fatal("Open kept what was handed in")
		}
	}
}
