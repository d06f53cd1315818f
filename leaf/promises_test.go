package leaf

import (
	"bytes"
	"math/rand"
	"slices"
	"testing"

	"shale/api"
	"shale/chip"
	"shale/words"
)

func TestL3ThereAndBack(t *testing.T) {
	r := rand.New(rand.NewSource(11))
	for range 500 {
		m := someMeant(r)
		if x := openOK(t, m.g, m.build(t)); !m.wholeAs(x, m.zeros(t), 0) {
			t.Fatalf("%v, %v: read as %v, %v, %d", m.g, m.t, x.State, x.Tags, x.Fixed)
		}
	}
}

func TestL4EachBitAlone(t *testing.T) {
	r := rand.New(rand.NewSource(12))
	for _, m := range []meant{headMeant(), helloMeant(), someMeant(r), someMeant(r)} {
		p, zeros := m.build(t), m.zeros(t)
		for bit := range bitsOf(p) {
			turn(p, bit)
			if x := openOK(t, m.g, p); !m.wholeAs(x, zeros, 1) {
				t.Fatalf("%v, the bit %d turned round: %v, %d", m.t, bit, x.State, x.Fixed)
			}
			turn(p, bit)
		}
	}
}

func TestL4OneBitInEachOfSomeUnits(t *testing.T) {
	r := rand.New(rand.NewSource(13))
	for range 1000 {
		m := someMeant(r)
		p, fixed := m.build(t), 0
		for unit := range m.g.Sectors + 1 {
			if r.Intn(3) > 0 {
				turn(p, oneOf(r, bitsOfUnit(m.g, unit)))
				fixed++
			}
		}
		if x := openOK(t, m.g, p); !m.wholeAs(x, m.zeros(t), fixed) {
			t.Fatalf("%v, %d bits turned round: %v, %d", m.t, fixed, x.State, x.Fixed)
		}
	}
}

func oneOf(r *rand.Rand, list []int) int { return list[r.Intn(len(list))] }

func TestL4TwoBitsOfAUnitAreBroken(t *testing.T) {
	r := rand.New(rand.NewSource(14))
	for range 1000 {
		m := someMeant(r)
		p, bits := m.build(t), bitsOfUnit(m.g, r.Intn(m.g.Sectors+1))
		one, two := oneOf(r, bits), oneOf(r, bits)
		if one == two {
			continue
		}
		turn(p, one)
		turn(p, two)
		if x := openOK(t, m.g, p); !isBare(x, api.LookBroken) {
			t.Fatalf("%v, the bits %d and %d turned round: %v", m.t, one, two, x.State)
		}
	}
}

// someMask lets through any bits, or nearly all, or nearly none, or a first stretch.
func someMask(r *rand.Rand, n int) []byte {
	mask := make([]byte, n)
	switch r.Intn(4) {
	case 0:
		r.Read(mask)
	case 1, 2:
		if r.Intn(2) == 0 {
			mask = bytes.Repeat([]byte{255}, n)
		}
		for range r.Intn(5) {
			mask[r.Intn(n)] ^= 1 << r.Intn(8)
		}
	case 3:
		copy(mask, bytes.Repeat([]byte{255}, r.Intn(n+1)))
	}
	return mask
}

func joined(p api.Page) []byte { return append(slices.Clone(p.Data), p.Spare...) }

func parted(g api.Geometry, b []byte) api.Page {
	return api.Page{Data: b[:256*g.Sectors], Spare: b[256*g.Sectors:]}
}

// torn is what masks leave of a page that is programmed over ones, and then perhaps erased in part, again and again.
func torn(r *rand.Rand, p api.Page) []byte {
	b := bytes.Repeat([]byte{255}, len(p.Data)+len(p.Spare))
	b, _ = words.Fall(b, joined(p), someMask(r, len(b)), byte(r.Intn(256)))
	for range r.Intn(4) - 1 {
		b = words.Rise(b, someMask(r, len(b)-r.Intn(9)), 0)
	}
	return b
}

// seen counts what became of pages, so that a test shows something of each.
type seen [3]int

func (s seen) enough(t *testing.T, states ...int) {
	t.Helper()
	for _, state := range states {
		if s[state] < 50 {
			t.Errorf("only %d pages were seen in the state %d", s[state], state)
		}
	}
}

// meantOrNone fails, unless a page is blank, broken, or whole as it was meant.
func (m meant) meantOrNone(t *testing.T, x api.Look) {
	t.Helper()
	if x.State == api.LookWhole && !m.wholeAs(x, m.zeros(t), x.Fixed) || x.State != api.LookWhole && !isBare(x, x.State) {
		t.Fatalf("%v: read as %v, %v", m.t, x.State, x.Tags)
	}
}

func TestL5Tears(t *testing.T) {
	r := rand.New(rand.NewSource(15))
	var s seen
	for range 6000 {
		m := someMeant(r)
		x := openOK(t, m.g, parted(m.g, torn(r, m.build(t))))
		m.meantOrNone(t, x)
		s[x.State]++
	}
	s.enough(t, api.LookBlank, api.LookWhole, api.LookBroken)
}

func TestL5RisesOfAWholePage(t *testing.T) {
	r := rand.New(rand.NewSource(16))
	var s seen
	for range 6000 {
		m := someMeant(r)
		b := joined(m.build(t))
		for range 1 + r.Intn(3) {
			b = words.Rise(b, someMask(r, len(b)), 0)
		}
		x := openOK(t, m.g, parted(m.g, b))
		m.meantOrNone(t, x)
		s[x.State]++
	}
	s.enough(t, api.LookBlank, api.LookWhole, api.LookBroken)
}

// Zeros that are missing in such a way that the sector's sum does not see it: their numbers cancel one another, or look like one that is none of them.
func TestL5WhatTheSumDoesNotSee(t *testing.T) {
	m := meant{g: shape(2), t: api.Tags{Kind: api.KindData, Serial: 3, Begin: 2, Object: 2, Count: 512}, data: make([]byte, 512)}
	for _, bits := range [][]int{{0, 1, 2, 3}, {8, 9, 10, 11}, {0, 1, 2}, {4, 5, 6}, {2048, 2049, 2050, 2051}, {0, 1, 2, 3, 2048, 2049, 2050, 2051}, {0, 1, 2, 3, 4, 5, 6, 7}} {
		p := m.build(t)
		for _, bit := range bits {
			turn(p, bit)
		}
		if x := openOK(t, m.g, p); !isBare(x, api.LookBroken) {
			t.Errorf("the zeros %v are missing: %v, %d put right", bits, x.State, x.Fixed)
		}
	}
}

// asMeant tells the units in which no bit is another than it was meant.
func asMeant(g api.Geometry, b, want []byte) []int {
	wrong := make([]bool, g.Sectors+1)
	for bit := range 8 * len(b) {
		if (b[bit/8]^want[bit/8])>>(bit%8)&1 == 1 {
			wrong[unitOf(g, bit)] = true
		}
	}
	var list []int
	for unit, w := range wrong {
		if !w {
			list = append(list, unit)
		}
	}
	return list
}

func TestL6FlipsBehindTears(t *testing.T) {
	r := rand.New(rand.NewSource(17))
	var s seen
	flips := 0
	for range 6000 {
		m := someMeant(r)
		want := m.build(t)
		p := parted(m.g, torn(r, want))
		for _, unit := range asMeant(m.g, joined(p), joined(want)) {
			if r.Intn(3) > 0 {
				turn(p, oneOf(r, bitsOfUnit(m.g, unit)))
				flips++
			}
		}
		x := openOK(t, m.g, p)
		m.meantOrNone(t, x)
		s[x.State]++
	}
	s.enough(t, api.LookWhole, api.LookBroken)
	if flips < 500 {
		t.Errorf("only %d bits were turned round: nothing is shown", flips)
	}
}

func TestL7NothingElseIsWhole(t *testing.T) {
	r := rand.New(rand.NewSource(18))
	var s seen
	for range 8000 {
		m := someMeant(r)
		p := m.build(t)
		for range r.Intn(6) {
			turn(p, r.Intn(bitsOf(p)))
		}
		x := openOK(t, m.g, p)
		s[x.State]++
		if x.State == api.LookWhole {
			held(t, m.g, p, x)
		} else if near(m, joined(p), joined(m.build(t))) {
			t.Fatalf("%v: one bit a unit at most is wrong, and it is %v", m.t, x.State)
		}
	}
	s.enough(t, api.LookWhole, api.LookBroken)
}

// held fails, unless a page that is whole is one that Build tells, but for one bit a unit.
func held(t *testing.T, g api.Geometry, p api.Page, x api.Look) {
	t.Helper()
	told, e := Build(g, x.Tags, x.Data[:x.Tags.Count])
	if e != api.OK {
		t.Fatalf("whole, and Build(%v, %v) is %d", g, x.Tags, e)
	}
	if !bytes.Equal(told.Data, x.Data) {
		t.Fatalf("%v: the data that is told is not that of the page", x.Tags)
	}
	wrong := wrongBits(g, joined(p), joined(told))
	n := 0
	for unit, k := range wrong {
		n += k
		if k > 1 {
			t.Fatalf("%v: whole with %d wrong bits in the unit %d", x.Tags, k, unit)
		}
	}
	if n != x.Fixed {
		t.Fatalf("%v: %d bits are wrong, Fixed is %d", x.Tags, n, x.Fixed)
	}
}

func wrongBits(g api.Geometry, b, want []byte) []int {
	wrong := make([]int, g.Sectors+1)
	for bit := range 8 * len(b) {
		if (b[bit/8]^want[bit/8])>>(bit%8)&1 == 1 {
			wrong[unitOf(g, bit)]++
		}
	}
	return wrong
}

func near(m meant, b, want []byte) bool {
	return slices.Max(wrongBits(m.g, b, want)) <= 1
}

// P1 of the whole: whatever faults and flips meet a chip on which nothing is programmed but what Build tells, a page that is whole is what one Program of it was called with.
func TestP1Pages(t *testing.T) {
	var s seen
	for seed := range int64(30) {
		r := rand.New(rand.NewSource(seed))
		c, e := chip.New(shape(1), nil, someFaults(r, 200))
		if e != api.OK {
			t.Fatal(e)
		}
		called := map[api.Place][]api.Page{}
		for range 300 {
			live(t, r, c, called)
		}
		c.On()
		for block := range 8 {
			for page := range 4 {
				at := api.Place{Block: block, Page: page}
				read, _ := c.Read(at)
				x := openOK(t, shape(1), read)
				s[x.State]++
				if x.State == api.LookWhole && !slices.ContainsFunc(called[at], func(p api.Page) bool { return isOf(t, p, x) }) {
					t.Fatalf("seed %d: %v is whole, and not what it was programmed with", seed, at)
				}
			}
		}
	}
	s.enough(t, api.LookBlank, api.LookWhole, api.LookBroken)
}

func isOf(t *testing.T, p api.Page, x api.Look) bool {
	t.Helper()
	want := openOK(t, shape(1), p)
	return want.Tags == x.Tags && bytes.Equal(want.Data, x.Data)
}

func someFaults(r *rand.Rand, most int) []api.Fault {
	var list []api.Fault
	for at := r.Intn(4); at < most; at += 1 + r.Intn(6) {
		list = append(list, api.Fault{At: at, Kind: 1 + r.Intn(2), Mask: someMask(r, 313), Fill: byte(r.Intn(256))})
	}
	return list
}

// live does one thing to a chip: a page, an erase, flips.
func live(t *testing.T, r *rand.Rand, c *chip.Chip, called map[api.Place][]api.Page) {
	t.Helper()
	c.On()
	at := api.Place{Block: r.Intn(8), Page: r.Intn(4)}
	switch r.Intn(8) {
	case 0:
		c.Erase(at.Block)
	case 1, 2, 3:
		for range 5 {
			c.Flip(at, r.Intn(2504))
		}
	default:
		m := someMeant(r)
		for m.g != shape(1) {
			m = someMeant(r)
		}
		p := m.build(t)
		c.Program(at, p)
		called[at] = append(called[at], p)
	}
}
