package image

import (
	"bytes"
	"math/rand"
	"slices"
	"testing"

	"shale/api"
)

// Each part of a row, one behind the other: what is missing, and what may not be.
func TestReadErrors(t *testing.T) {
	told := func(m int, data ...byte) []byte {
		return slices.Concat([]byte{1, byte(m), byte(m >> 8)}, data, rep(7, 57))
	}
	of := func(parts ...[]byte) []byte { return row(slices.Concat(parts...)...) }
	blankPage := slices.Concat([]byte{1, 0, 0}, rep(255, 57))
	full := row(0, 32, 0)
	turned := slices.Clone(full)
	turned[len(turned)-4] ^= 1
	text := func(s string) []byte { return []byte(s) }
	for what, x := range map[string]struct {
		b    []byte
		want api.Errno
	}{
		"nothing":                                {nil, api.ErrMagic},
		"a beginning of the letters":             {text("SHA"), api.ErrMagic},
		"other letters":                          {text("SHAM\x01"), api.ErrMagic},
		"other letters, all right behind":        {append([]byte("s"), full[1:]...), api.ErrMagic},
		"a first letter that is wrong":           {text("XHAL"), api.ErrMagic},
		"the letters":                            {text("SHAL"), api.ErrShort},
		"the version 0":                          {text("SHAL\x00"), api.ErrVersion},
		"the version 2, and a geometry":          {text("SHAL\x02\x08\x00\x04\x00\x01"), api.ErrVersion},
		"no geometry":                            {text("SHAL\x01"), api.ErrShort},
		"blocks that may not be, and no more":    {text("SHAL\x01\x07\x00\x04\x00"), api.ErrShort},
		"7 blocks":                               {text("SHAL\x01\x07\x00\x04\x00\x01"), api.ErrShape},
		"3 pages":                                {text("SHAL\x01\x08\x00\x03\x00\x01"), api.ErrShape},
		"no sectors":                             {text("SHAL\x01\x08\x00\x04\x00\x00"), api.ErrShape},
		"9 sectors":                              {text("SHAL\x01\x08\x00\x04\x00\x09"), api.ErrShape},
		"4097 blocks":                            {text("SHAL\x01\x01\x10\x04\x00\x01"), api.ErrShape},
		"257 pages":                              {text("SHAL\x01\x08\x00\x01\x01\x01"), api.ErrShape},
		"4096 blocks of 17 pages":                {text("SHAL\x01\x00\x10\x11\x00\x01"), api.ErrShape},
		"65535 of each":                          {text("SHAL\x01\xff\xff\xff\xff\xff"), api.ErrShape},
		"no marks":                               {text("SHAL\x01\x08\x00\x04\x00\x01"), api.ErrShort},
		"one byte of marks of two":               {text("SHAL\x01\x09\x00\x04\x00\x01\x00"), api.ErrShort},
		"a mark of no block, half of them there": {text("SHAL\x01\x11\x00\x04\x00\x01\x00\xff"), api.ErrShort},
		"a mark of the block 9 of 9":             {text("SHAL\x01\x09\x00\x04\x00\x01\x00\x02"), api.ErrImage},
		"a mark of the block 15 of 9":            {text("SHAL\x01\x09\x00\x04\x00\x01\x00\x80"), api.ErrImage},
		"a mark of the block 15 of 15":           {text("SHAL\x01\x0f\x00\x04\x00\x01\x00\x80"), api.ErrImage},
		"no pieces":                              {front(), api.ErrShort},
		"the kind 3, without a number":           {append(front(), 3), api.ErrImage},
		"the kind 255":                           {append(front(), 255, 1, 0), api.ErrImage},
		"a blank, without a number":              {append(front(), 0), api.ErrShort},
		"a blank, half a number":                 {append(front(), 0, 0), api.ErrShort},
		"told, half a number":                    {append(front(), 1, 1), api.ErrShort},
		"a twin at first, without a number":      {append(front(), 2), api.ErrShort},
		"a twin at first, half a number":         {append(front(), 2, 1), api.ErrShort},
		"no blank":                               {append(front(), 0, 0, 0), api.ErrImage},
		"33 blank":                               {append(front(), 0, 33, 0), api.ErrImage},
		"288 blank":                              {append(front(), 0, 32, 1), api.ErrImage},
		"a twin at first":                        {append(front(), 2, 1, 0), api.ErrImage},
		"no twin, at first":                      {append(front(), 2, 0, 0), api.ErrImage},
		"33 twins, at first":                     {append(front(), 2, 33, 0), api.ErrImage},
		"32 twins, at first":                     {append(front(), 2, 32, 0), api.ErrImage},
		"257 bytes of data, none there":          {append(front(), 1, 1, 1), api.ErrImage},
		"256 bytes of data, none there":          {append(front(), 1, 0, 1), api.ErrShort},
		"255 at the end, spare missing":          {append(front(), 1, 1, 0, 255), api.ErrShort},
		"a byte of the spare missing":            {slices.Concat(front(), told(1, 9)[:60]), api.ErrShort},
		"255 at the end":                         {slices.Concat(front(), told(2, 9, 255)), api.ErrImage},
		"255 alone":                              {slices.Concat(front(), told(1, 255)), api.ErrImage},
		"a blank that is told":                   {slices.Concat(front(), blankPage), api.ErrImage},
		"a blank that is told, behind one":       {slices.Concat(front(), told(1, 9), blankPage), api.ErrImage},
		"a twin that is told":                    {slices.Concat(front(), told(1, 9), told(1, 9)), api.ErrImage},
		"a twin of twins that is told":           {slices.Concat(front(), told(1, 9), []byte{2, 3, 0}, told(1, 9)), api.ErrImage},
		"told again, behind a blank":             {of(told(1, 9), []byte{0, 1, 0}, told(1, 9), []byte{0, 29, 0}), api.OK},
		"told again, behind another":             {of(told(1, 9), told(1, 8), told(1, 9), []byte{0, 29, 0}), api.OK},
		"one of the same data":                   {of(told(1, 9), slices.Concat([]byte{1, 1, 0, 9}, rep(8, 57)), []byte{0, 30, 0}), api.OK},
		"a twin behind a blank":                  {slices.Concat(front(), told(1, 9), []byte{0, 1, 0, 2, 1, 0}), api.ErrImage},
		"no twin":                                {slices.Concat(front(), told(1, 9), []byte{2, 0, 0}), api.ErrImage},
		"32 twins of one":                        {slices.Concat(front(), told(1, 9), []byte{2, 32, 0}), api.ErrImage},
		"31 twins of one":                        {of(told(1, 9), []byte{2, 31, 0}), api.OK},
		"twins behind twins":                     {slices.Concat(front(), told(1, 9), []byte{2, 1, 0, 2, 1, 0}), api.ErrImage},
		"blanks behind blanks":                   {append(front(), 0, 1, 0, 0, 31, 0), api.ErrImage},
		"a page behind the last one":             {append(front(), 0, 32, 0, 0, 1, 0, 9), api.ErrSum},
		"no sum":                                 {full[:14], api.ErrShort},
		"three bytes of a sum":                   {full[:17], api.ErrShort},
		"three bytes of a wrong sum":             {turned[:17], api.ErrShort},
		"a wrong sum":                            {turned, api.ErrSum},
		"a wrong sum, and more":                  {append(slices.Clone(turned), 1), api.ErrSum},
		"a byte more":                            {append(slices.Clone(full), 0), api.ErrTail},
		"all of it twice":                        {slices.Concat(full, full), api.ErrTail},
		"all of it":                              {full, api.OK},
	} {
		if m, e := Read(x.b); e != x.want || e != api.OK && (m.Cells != nil || m.Marks != nil || m.G != api.Geometry{}) {
			t.Errorf("Read of %s: %d, want %d", what, e, x.want)
		}
		if _, e := slowRead(x.b); e != x.want {
			t.Errorf("the model reads %s: %d, want %d", what, e, x.want)
		}
	}
}

// Every geometry at the edges is read as it is, or refused.
func TestReadShapes(t *testing.T) {
	for g, may := range shapes() {
		if g.Blocks < 0 || g.Pages < 0 || g.Sectors < 0 || g.Blocks > 65535 {
			continue // no row can tell it
		}
		b := []byte{83, 72, 65, 76, 1, byte(g.Blocks), byte(g.Blocks >> 8), byte(g.Pages), byte(g.Pages >> 8), byte(g.Sectors)}
		if !may {
			if _, e := Read(b); e != api.ErrShape {
				t.Errorf("Read of %v: %d", g, e)
			}
			continue
		}
		m := ofPages(g)
		if got, e := Read(packed(t, m)); e != api.OK || !alike(got, m) {
			t.Errorf("Read of %v: %d", g, e)
		}
	}
}

// P20.1, P20.2, P10: there and back; and Pack is as the slow model's.
func TestP201ThereAndBack(t *testing.T) {
	r := rand.New(rand.NewSource(1))
	for range 400 {
		m := someImage(r)
		b := packed(t, m)
		if !bytes.Equal(b, slowPack(m)) {
			t.Fatalf("Pack of %v is not the model's", m.G)
		}
		got, e := Read(b)
		if e != api.OK || !alike(got, m) {
			t.Fatalf("P20.1: %v: %d", m.G, e)
		}
	}
}

// spoil changes a row somewhere, mostly where its numbers are.
func spoil(r *rand.Rand, b []byte) []byte {
	b = slices.Clone(b[:len(b)-4])
	for range 1 + r.Intn(2) {
		n := 10 + r.Intn(len(b)-10)
		if r.Intn(20) == 0 {
			n = r.Intn(11)
		}
		switch r.Intn(6) {
		case 0:
			b[n] ^= 1 << r.Intn(8)
		case 1:
			b[n] = byte(r.Intn(4))
		case 2:
			b = slices.Insert(b, n, byte(r.Intn(3)), byte(r.Intn(3)), 0)
		case 3:
			b = slices.Delete(b, n, min(len(b), n+1+r.Intn(4)))
		case 4:
			if b[n] < 255 {
				b[n]++
			}
		case 5:
			end := min(len(b), n+r.Intn(120))
			b = slices.Insert(b, n, b[n:end]...)
		}
		if len(b) < 12 {
			break
		}
	}
	return b
}

// P20.2: whatever Read takes, Pack of it is the row; what it answers else is what the slow model does.
func TestP202OneRow(t *testing.T) {
	r := rand.New(rand.NewSource(2))
	taken, refused := 0, map[api.Errno]int{}
	for range 300 {
		m := someImage(r)
		whole := packed(t, m)
		for range 40 {
			b := spoil(r, whole)
			if r.Intn(5) > 0 {
				b = sealed(b)
			}
			if r.Intn(9) == 0 {
				b = append(b, b[:r.Intn(9)]...)
			}
			got, e := Read(b)
			want, wanted := slowRead(b)
			if e != wanted || e == api.OK && !alike(got, want) {
				t.Fatalf("Read of % d: %d, want %d", b, e, wanted)
			}
			if e != api.OK {
				refused[e]++
				continue
			}
			taken++
			if !bytes.Equal(packed(t, got), b) {
				t.Fatalf("P20.2: % d is read, but is not the image's row", b)
			}
		}
	}
	if taken < 100 || refused[api.ErrImage] < 100 || refused[api.ErrShort] < 100 || refused[api.ErrSum] < 100 || refused[api.ErrTail] < 100 {
		t.Errorf("too few rows of a kind: %d taken, %v", taken, refused)
	}
}

// P20.3: what is cut off, or goes on, is refused.
func TestP203Cut(t *testing.T) {
	r := rand.New(rand.NewSource(3))
	for range 30 {
		b := packed(t, someImage(r))
		for n := range b {
			want := api.ErrShort
			if n < 4 {
				want = api.ErrMagic
			}
			if _, e := Read(b[:n]); e != want {
				t.Fatalf("P20.3: the first %d of %d bytes: %d, want %d", n, len(b), e, want)
			}
		}
		for range 20 {
			more := make([]byte, 1+r.Intn(9))
			r.Read(more)
			if _, e := Read(slices.Concat(b, more)); e != api.ErrTail {
				t.Fatalf("P20.3: with % d behind: %d", more, e)
			}
		}
	}
}

// P20.3: one bit, or any bits within 32 neighbours, are turned round.
func TestP203Turned(t *testing.T) {
	r := rand.New(rand.NewSource(4))
	one := sheet(small(), 7, 5)
	short := packed(t, marked(ofPages(small(), one, one, sheet(small(), 255), sheet(small(), 0, 1, 2)), 2))
	for bit := range 8 * len(short) {
		if e := readTurned(short, bit, 1); e == api.OK {
			t.Fatalf("P20.3: with the bit %d turned it is taken", bit)
		}
		if e := readTurned(short, bit, r.Uint32()|1); e == api.OK {
			t.Fatalf("P20.3: with bits from %d on turned it is taken", bit)
		}
	}
	for range 40 {
		b := packed(t, someImage(r))
		for range 100 {
			bit := r.Intn(8 * len(b))
			if e := readTurned(b, bit, r.Uint32()|1); e == api.OK {
				t.Fatalf("P20.3: with bits from %d on turned it is taken", bit)
			}
		}
	}
}

// readTurned turns the bits of a mask round, from one on, as far as there are bits.
func readTurned(b []byte, bit int, mask uint32) api.Errno {
	turned := slices.Clone(b)
	for k := range 32 {
		if at := bit + k; mask>>k&1 == 1 && at < 8*len(b) {
			turned[at/8] ^= 1 << (at % 8)
		}
	}
	_, e := Read(turned)
	return e
}

// R1: any bytes at all are read to an end, and cost no more than they tell of.
func TestReadAnything(t *testing.T) {
	r := rand.New(rand.NewSource(5))
	for range 20000 {
		b := make([]byte, r.Intn(60))
		r.Read(b)
		if r.Intn(3) > 0 {
			b = append([]byte{83, 72, 65, 76, 1, 8, 0, 4, 0, 1, byte(r.Intn(256))}, b...)
		}
		m, e := Read(b)
		want, wanted := slowRead(b)
		if e != wanted || !alike(m, want) {
			t.Fatalf("Read of % d: %d, want %d", b, e, wanted)
		}
	}
}
