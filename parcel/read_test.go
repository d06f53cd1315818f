package parcel

import (
	"bytes"
	"math/rand"
	"slices"
	"strings"
	"testing"

	"shale/api"
)

// begin is a row up to its pieces.
func begin() []byte { return slices.Concat([]byte("PRCL\x01"), make([]byte, 10)) }

// bare is a piece up to its last name's end.
func bare(depth, kind int, name string) []byte {
	return slices.Concat([]byte{byte(depth), byte(kind)}, make([]byte, 10), []byte{byte(len(name))}, []byte(name))
}

// Each part of a row, one behind the other: what is missing (ErrParcel), and what may not be (ErrPiece), though nothing follows.
func TestReadErrors(t *testing.T) {
	row := packed(t, example())
	turned := slices.Clone(row)
	turned[len(row)-1] ^= 1
	open := func(parts ...[]byte) []byte { return slices.Concat(append([][]byte{begin()}, parts...)...) }
	whole := func(parts ...[]byte) []byte { return sealed(open(parts...), []byte{255}) }
	of := func(tail ...byte) []byte { return whole(bare(0, 1, "a"), tail) }
	part := func(tail ...byte) []byte { return open(bare(0, 1, "a"), tail) }
	stamp := make([]byte, 8)
	zeros := func(n int) []byte { return make([]byte, n) }
	filled := func(n int, b ...byte) []byte { return slices.Concat([]byte{1}, le(4, uint64(n)), b) }
	hole := func(n int) []byte { return slices.Concat([]byte{0}, le(4, uint64(n))) }
	data := func(n int, parts ...[]byte) []byte {
		return of(slices.Concat(le(4, uint64(n)), slices.Concat(parts...))...)
	}
	cut := func(n int, parts ...[]byte) []byte {
		return part(slices.Concat(le(4, uint64(n)), slices.Concat(parts...))...)
	}
	deep := func(n int) []byte {
		b := begin()
		for k := range n {
			b = append(b, bare(k, 2, "d")...)
		}
		return b
	}
	long := func(n int) []byte { // names of 63 bytes, then one of n
		b := begin()
		for k := range 15 {
			b = append(b, bare(k, 2, strings.Repeat("n", 63))...)
		}
		return sealed(b, bare(15, 2, strings.Repeat("n", n)), []byte{255})
	}
	for what, x := range map[string]struct {
		b    []byte
		want api.Errno
	}{
		"nothing":                              {nil, api.ErrParcel},
		"the letters":                          {[]byte("PRCL"), api.ErrParcel},
		"other letters":                        {sealed([]byte("PRCM\x01"), row[5:len(row)-4]), api.ErrParcel},
		"another version":                      {sealed([]byte("PRCL\x00"), row[5:len(row)-4]), api.ErrParcel},
		"no mode":                              {[]byte("PRCL\x01"), api.ErrParcel},
		"half a mode, too great":               {[]byte("PRCL\x01\xff"), api.ErrParcel},
		"a mode of 4096":                       {[]byte("PRCL\x01\x00\x10"), api.ErrPiece},
		"a mode of 4095, no stamp":             {[]byte("PRCL\x01\xff\x0f"), api.ErrParcel},
		"seven bytes of a stamp":               {begin()[:14], api.ErrParcel},
		"nothing behind the first":             {begin(), api.ErrParcel},
		"the root alone":                       {sealed(begin(), []byte{255}), api.OK},
		"the root with 4095":                   {sealed([]byte("PRCL\x01\xff\x0f"), rep(255, 8), []byte{255}), api.OK},
		"a directory too deep":                 {open([]byte{1}), api.ErrPiece},
		"a directory of 254 names":             {open([]byte{254}), api.ErrPiece},
		"no type":                              {open([]byte{0}), api.ErrParcel},
		"the type 0":                           {open([]byte{0, 0}), api.ErrPiece},
		"the type 4":                           {open([]byte{0, 4}), api.ErrPiece},
		"no mode of a leaf":                    {open([]byte{0, 1}), api.ErrParcel},
		"half a mode of a leaf":                {open([]byte{0, 1, 255}), api.ErrParcel},
		"a mode of a leaf of 4096":             {open([]byte{0, 1, 0, 16}), api.ErrPiece},
		"a mode of a leaf of 65535":            {open([]byte{0, 1, 255, 255}), api.ErrPiece},
		"no stamp of a leaf":                   {open([]byte{0, 1, 255, 15}), api.ErrParcel},
		"half a stamp of a leaf":               {open([]byte{0, 1, 0, 0, 1, 2, 3, 4}), api.ErrParcel},
		"no length of a name":                  {open([]byte{0, 1, 0, 0}, stamp), api.ErrParcel},
		"a name of no bytes":                   {open([]byte{0, 1, 0, 0}, stamp, []byte{0}), api.ErrPiece},
		"a name of 64 bytes":                   {open([]byte{0, 1, 0, 0}, stamp, []byte{64}), api.ErrPiece},
		"a name of 63 bytes, not there":        {open([]byte{0, 1, 0, 0}, stamp, []byte{63}), api.ErrParcel},
		"half a name, with a byte 0":           {open([]byte{0, 1, 0, 0}, stamp, []byte{2, 0}), api.ErrParcel},
		"a name with a byte 0":                 {open([]byte{0, 1, 0, 0}, stamp, []byte{2, 0, 97}), api.ErrPiece},
		"a name with a slash":                  {open(bare(0, 1, "a/b")), api.ErrPiece},
		"a dot":                                {open(bare(0, 1, ".")), api.ErrPiece},
		"two dots":                             {open(bare(0, 1, "..")), api.ErrPiece},
		"three dots":                           {whole(bare(0, 2, "...")), api.OK},
		"a name of 63":                         {whole(bare(0, 2, strings.Repeat("n", 63))), api.OK},
		"the same name":                        {open(bare(0, 2, "a"), bare(0, 2, "a")), api.ErrPiece},
		"a lesser name":                        {open(bare(0, 2, "b"), bare(0, 2, "a")), api.ErrPiece},
		"a greater name":                       {whole(bare(0, 2, "a"), bare(0, 2, "b")), api.OK},
		"a longer name":                        {whole(bare(0, 2, "a"), bare(0, 2, "a!")), api.OK},
		"a shorter name":                       {open(bare(0, 2, "a!"), bare(0, 2, "a")), api.ErrPiece},
		"a lesser name, one deeper":            {whole(bare(0, 2, "b"), bare(1, 2, "a")), api.OK},
		"back up, greater than the first more": {whole(bare(0, 2, "b"), bare(1, 2, "z"), bare(0, 2, "c")), api.OK},
		"back up, the same":                    {open(bare(0, 2, "b"), bare(1, 2, "z"), bare(0, 2, "b")), api.ErrPiece},
		"back up, greater than the last alone": {open(bare(0, 2, "m"), bare(1, 2, "a"), bare(0, 2, "c")), api.ErrPiece},
		"below a link":                         {open(bare(0, 3, "b"), []byte{1, 120}, []byte{1}), api.ErrPiece},
		"below a file":                         {open(bare(0, 1, "b"), zeros(4), []byte{1}), api.ErrPiece},
		"beside a file":                        {whole(bare(0, 1, "b"), zeros(4), bare(0, 1, "c"), zeros(4)), api.OK},
		"beside a file in a directory":         {whole(bare(0, 2, "b"), bare(1, 1, "c"), zeros(4), bare(1, 2, "d")), api.OK},
		"below a file in a directory":          {open(bare(0, 2, "b"), bare(1, 1, "c"), zeros(4), []byte{2}), api.ErrPiece},
		"two deeper":                           {open(bare(0, 2, "b"), []byte{2}), api.ErrPiece},
		"64 names":                             {sealed(deep(64), []byte{255}), api.OK},
		"65 names":                             {append(deep(64), 64), api.ErrPiece},
		"64 names, and beside":                 {sealed(deep(64), bare(63, 2, "e"), []byte{255}), api.OK},
		"a path of 1023 bytes":                 {long(62), api.OK},
		"a path of 1024 bytes":                 {long(63), api.ErrPiece},
		"no length of data":                    {part(), api.ErrParcel},
		"half a length, too great":             {part(255, 255, 255), api.ErrParcel},
		"data of 2^24 + 1":                     {cut(1<<24 + 1), api.ErrPiece},
		"data of 2^32 - 1":                     {cut(1<<32 - 1), api.ErrPiece},
		"data of 2^24, a hole":                 {data(1<<24, hole(1<<24)), api.OK},
		"data of 2^24, no stretch":             {cut(1 << 24), api.ErrParcel},
		"no data":                              {data(0), api.OK},
		"a stretch of no data":                 {data(0, hole(16)), api.ErrPiece}, // its 0 begins a piece, the 16 is a type
		"the kind 2":                           {cut(1, []byte{2}), api.ErrPiece},
		"the kind 255":                         {cut(1, []byte{255}), api.ErrPiece},
		"no length of a stretch":               {cut(1, []byte{1}), api.ErrParcel},
		"three bytes of a length":              {cut(1, []byte{1, 255, 255, 255}), api.ErrParcel},
		"a filled one of none":                 {cut(1, filled(0)), api.ErrPiece},
		"a filled one of too many":             {cut(1, filled(2)), api.ErrPiece},
		"a filled one, not there":              {cut(1, filled(1)), api.ErrParcel},
		"half a filled one":                    {cut(2, filled(2, 0)), api.ErrParcel},
		"half a filled one of zeros":           {cut(32, filled(32, zeros(31)...)), api.ErrParcel},
		"a hole of none":                       {cut(16, hole(0)), api.ErrPiece},
		"a hole of 15":                         {cut(15, hole(15)), api.ErrPiece},
		"a hole of 15 of 16":                   {cut(16, hole(15)), api.ErrPiece},
		"a hole of 16":                         {data(16, hole(16)), api.OK},
		"a hole of 17 of 16":                   {cut(16, hole(17)), api.ErrPiece},
		"a hole of 16 of 15":                   {cut(15, hole(16)), api.ErrPiece},
		"a hole of 2^32 - 1":                   {cut(16, hole(1<<32-1)), api.ErrPiece},
		"two holes":                            {cut(32, hole(16), []byte{0}), api.ErrPiece},
		"two filled ones":                      {cut(2, filled(1, 5), []byte{1}), api.ErrPiece},
		"15 zeros, filled":                     {data(15, filled(15, zeros(15)...)), api.OK},
		"16 zeros, filled":                     {cut(16, filled(16, zeros(16)...)), api.ErrPiece},
		"16 zeros at the end of a filled one":  {cut(17, filled(17, append([]byte{5}, zeros(16)...)...)), api.ErrPiece},
		"16 zeros within a filled one":         {cut(18, filled(18, slices.Concat([]byte{5}, zeros(16), []byte{5})...)), api.ErrPiece},
		"15 zeros at both ends":                {data(31, filled(31, slices.Concat(zeros(15), []byte{5}, zeros(15))...)), api.OK},
		"a 0 ahead of a hole":                  {cut(18, filled(2, 5, 0)), api.ErrPiece},
		"a 0 alone ahead of a hole":            {cut(17, filled(1, 0)), api.ErrPiece},
		"a 0 behind a hole":                    {cut(18, hole(16), filled(2, 0, 5)), api.ErrPiece},
		"a 0 alone behind a hole":              {cut(17, hole(16), filled(1, 0)), api.ErrPiece},
		"a 0 at the end, behind a hole":        {data(18, hole(16), filled(2, 5, 0)), api.OK},
		"a 0 at the beginning, ahead of one":   {data(18, filled(2, 0, 5), hole(16)), api.OK},
		"too little is told":                   {data(3, filled(2, 5, 5)), api.ErrPiece}, // the 255 is no kind
		"a hole, filled, a hole":               {data(33, hole(16), filled(1, 5), hole(16)), api.OK},
		"no length of a target":                {open(bare(0, 3, "a")), api.ErrParcel},
		"a target of none":                     {open(bare(0, 3, "a"), []byte{0}), api.ErrPiece},
		"a target of 128":                      {open(bare(0, 3, "a"), []byte{128}), api.ErrPiece},
		"a target of 127, not there":           {open(bare(0, 3, "a"), []byte{127}), api.ErrParcel},
		"half a target, with a byte 0":         {open(bare(0, 3, "a"), []byte{2, 0}), api.ErrParcel},
		"a target with a byte 0":               {open(bare(0, 3, "a"), []byte{2, 97, 0}), api.ErrPiece},
		"a target of 127":                      {whole(bare(0, 3, "a"), []byte{127}, rep(97, 127)), api.OK},
		"no sum":                               {open([]byte{255}), api.ErrParcel},
		"three bytes of a sum":                 {row[:len(row)-1], api.ErrParcel},
		"three bytes of a wrong sum":           {append(slices.Clone(row[:len(row)-4]), 1, 2, 3), api.ErrParcel},
		"a wrong sum":                          {turned, api.ErrSum},
		"a wrong sum, and more":                {append(slices.Clone(turned), 1), api.ErrSum},
		"one byte more":                        {append(slices.Clone(row), 0), api.ErrParcel},
		"all of it":                            {row, api.OK},
	} {
		tree, e := Read(x.b)
		if e != x.want || e != api.OK && tree != nil {
			t.Errorf("Read of %s: %v, %d, want %d", what, tree, e, x.want)
		}
		if _, e := slowRead(x.b); e != x.want {
			t.Errorf("the model reads %s: %d, want %d", what, e, x.want)
		}
		if e == api.OK && !bytes.Equal(packed(t, tree), x.b) {
			t.Errorf("P18.2: %s", what)
		}
	}
}

// P18.1, P10: there and back.
func TestP181ThereAndBack(t *testing.T) {
	r := rand.New(rand.NewSource(2))
	for range 3000 {
		tree := someTree(r, 30)
		b := packed(t, tree)
		if got, e := Read(b); e != api.OK || !sameTree(got, tree) {
			t.Fatalf("P18.1: Read of Pack(%v): %v, %d", tree, got, e)
		}
		if want, _ := slowPack(tree); !bytes.Equal(b, want) {
			t.Fatalf("Pack(%v): % d, want % d", tree, b, want)
		}
	}
}

// spoil changes a row somewhere, and gives it its right sum most of the time.
func spoil(r *rand.Rand, b []byte) []byte {
	b = slices.Clone(b[:len(b)-4])
	for range 1 + r.Intn(2) {
		n := r.Intn(len(b))
		switch r.Intn(7) {
		case 0:
			b[n] ^= 1 << r.Intn(8)
		case 1:
			b[n] = byte(r.Intn(4))
		case 2:
			b[n]++
		case 3:
			b[n]--
		case 4:
			b = slices.Insert(b, n, b[n:min(len(b), n+r.Intn(30))]...)
		case 5:
			b = slices.Delete(b, n, min(len(b), n+r.Intn(6)))
		case 6:
			b = slices.Insert(b, n, byte(r.Intn(256)))
		}
		if len(b) == 0 {
			break
		}
	}
	if r.Intn(6) > 0 {
		b = sealed(b)
	}
	if r.Intn(9) == 0 {
		b = append(b, byte(r.Intn(256)))
	}
	return b
}

// P18.2: whatever Read takes, Pack of it is the row; what it answers else is what the slow model does.
func TestP182OneRow(t *testing.T) {
	r := rand.New(rand.NewSource(3))
	ends := map[api.Errno]int{}
	for range 3000 {
		whole := packed(t, someTree(r, 6))
		for range 30 {
			b := spoil(r, whole)
			tree, e := Read(b)
			want, wanted := slowRead(b)
			if e != wanted || !sameTree(tree, want) && e == api.OK {
				t.Fatalf("Read of % d: %v, %d, want %v, %d", b, tree, e, want, wanted)
			}
			if ends[e]++; e == api.OK && !bytes.Equal(packed(t, tree), b) {
				t.Fatalf("P18.2: % d is read, but is not the tree's row", b)
			}
		}
	}
	if ends[api.OK] < 1000 || ends[api.ErrPiece] < 1000 || ends[api.ErrParcel] < 1000 || ends[api.ErrSum] < 1000 {
		t.Errorf("too few of a kind: %v", ends)
	}
}

// P18.3: a row that ends early, goes on, or has bits turned round.
func TestP183Refused(t *testing.T) {
	r := rand.New(rand.NewSource(4))
	for range 40 {
		b := packed(t, someTree(r, 6))
		for n := range b {
			if tree, e := Read(b[:n]); e != api.ErrParcel || tree != nil {
				t.Fatalf("P18.3: the first %d of %d bytes: %d", n, len(b), e)
			}
		}
		for range 30 {
			more := make([]byte, 1+r.Intn(9))
			r.Read(more)
			if _, e := Read(slices.Concat(b, more)); e != api.ErrParcel {
				t.Fatalf("P18.3: with % d behind: %d", more, e)
			}
		}
		for bit := range 8 * len(b) {
			for _, mask := range []uint32{1, r.Uint32() | 1} {
				if _, e := Read(turnedRound(b, bit, mask)); e == api.OK {
					t.Fatalf("P18.3: bits from %d on turned round are taken", bit)
				}
			}
		}
	}
}

// turnedRound turns the bits of a mask round, from one on, as far as there are bits.
func turnedRound(b []byte, bit int, mask uint32) []byte {
	b = slices.Clone(b)
	for k := range 32 {
		if at := bit + k; mask>>k&1 == 1 && at < 8*len(b) {
			b[at/8] ^= 1 << (at % 8)
		}
	}
	return b
}

// P18.5: how long a row may be.
func TestP185Length(t *testing.T) {
	r := rand.New(rand.NewSource(5))
	for range 5000 {
		tree := someTree(r, 12)
		most := 20
		for _, l := range tree[1:] {
			names := slowNames(l.Path)
			most += 22 + len(names[len(names)-1]) + len(l.Data) + len(l.Target)
		}
		if b := packed(t, tree); len(b) > most {
			t.Fatalf("P18.5: %d bytes of %v, at most %d", len(b), tree, most)
		}
	}
	if b := packed(t, []api.Leaf{dir("/"), file("/a", make([]byte, 1<<20)...)}); len(b) != 20+22+1 {
		t.Errorf("P18.5: a hole takes %d bytes", len(b))
	}
}

// P18.6, R4: what is handed in is as it was, its spare room too.
func TestP186HandedIn(t *testing.T) {
	r := rand.New(rand.NewSource(6))
	for range 200 {
		tree := someTree(r, 8)
		for n, l := range tree {
			tree[n].Data = append(slices.Clone(l.Data), 1, 2, 3)[:len(l.Data)]
		}
		roomy := append(slices.Clone(tree), dir("x"), file("y"))
		was := slices.Clone(roomy)
		for n, l := range was {
			was[n].Data = slices.Clone(l.Data[:cap(l.Data)])
		}
		b := packed(t, roomy[:len(tree)])
		long := append(slices.Clone(b), 7, 8, 9)
		wasLong := slices.Clone(long)
		if _, e := Read(long[:len(b)]); e != api.OK || !bytes.Equal(long, wasLong) {
			t.Fatal("P18.6: a row has changed")
		}
		for n, l := range roomy {
			l.Data = l.Data[:cap(l.Data)]
			if !sameTree([]api.Leaf{l}, was[n:n+1]) {
				t.Fatalf("P18.6: the leaf %d has changed", n)
			}
		}
	}
}

// P18.6, R4: what is told is new memory, and no two lists of it share any.
func TestP186New(t *testing.T) {
	tree := []api.Leaf{dir("/"), file("/a", rep(7, 20)...), file("/b", rep(8, 20)...), file("/c", rep(9, 20)...)}
	b := packed(t, tree)
	was := slices.Clone(b)
	got, e := Read(b)
	if e != api.OK {
		t.Fatal(e)
	}
	for n := range got {
		clear(append(got[n].Data, rep(1, 40)...))
		if n > 0 {
			clear(got[n].Data)
			for m := n + 1; m < len(got); m++ {
				if !bytes.Equal(got[m].Data, tree[m].Data) {
					t.Errorf("P18.6: the data of %d and %d is shared", n, m)
				}
			}
		}
	}
	clear(got)
	if !bytes.Equal(b, was) || !bytes.Equal(packed(t, tree), was) {
		t.Error("P18.6: what Read told is shared with the row")
	}
	clear(packed(t, tree))
	if !bytes.Equal(tree[1].Data, rep(7, 20)) || !bytes.Equal(packed(t, tree), was) {
		t.Error("P18.6: what Pack told is shared with the tree")
	}
}

// R1: a short row that tells of very much, and is none in the end, costs little: nothing is laid out of it.
func TestReadMuch(t *testing.T) {
	b := begin()
	for n := range 4000 {
		b = slices.Concat(b, bare(0, 1, string([]byte{byte(64 + n/64), byte(48 + n%64)})), le(4, 1<<24), []byte{0}, le(4, 1<<24))
	}
	b = append(b, 255, 0, 0, 0, 0)
	if tree, e := Read(b); e != api.ErrSum || tree != nil {
		t.Errorf("Read: %d", e)
	}
}
