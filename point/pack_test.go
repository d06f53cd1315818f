package point

import (
	"bytes"
	"math/rand"
	"reflect"
	"slices"
	"strconv"
	"strings"
	"testing"

	"shale/api"
	"shale/words"
)

// bare is the chapter's state of 8 free blocks.
func bare() api.State { return api.State{Floor: 1, Next: 2, Blocks: make([]api.Block, 8)} }

func object(id int, n api.Node, p api.Place, list ...api.Chunk) api.Object {
	return api.Object{Id: id, Head: true, Node: n, Place: p, Chunks: list}
}

func piece(k int, p api.Place, count int) api.Chunk {
	return api.Chunk{Chunk: k, Piece: api.Piece{Place: p, Count: count}}
}

func with(turn func(s *api.State)) api.State {
	s := bare()
	turn(&s)
	return s
}

func withObjects(list ...api.Object) api.State {
	return with(func(s *api.State) { s.Objects = list })
}

func packed(t *testing.T, s api.State) []byte {
	t.Helper()
	b, e := Pack(s)
	if e != api.OK {
		t.Fatalf("Pack(%v): %d", s, e)
	}
	return b
}

func unhex(t *testing.T, s string) []byte {
	t.Helper()
	b, e := words.Unhex(strings.ToLower(strings.ReplaceAll(s, " ", "")))
	if e != api.OK {
		t.Fatalf("%q: %d", s, e)
	}
	return b
}

// K1: the bytes, one behind the other.
func TestK1Bytes(t *testing.T) {
	for what, x := range map[string]struct {
		s    api.State
		want string
	}{
		"8 free blocks": {bare(), "0100000000000000 0200000000000000 01000000 01000000 08000000" + strings.Repeat("00", 80) + "00000000"},
		"no blocks":     {api.State{Cursor: -1, Last: -1}, "0000000000000000 0000000000000000 00000000 00000000 00000000 00000000"},
		"blocks": {
			api.State{Floor: api.MaxSerial, Next: api.MaxSerial + 1, Cursor: 1, Last: -1, Blocks: []api.Block{{State: 6, Head: 0x060504030201, Real: true, Live: 256}, {State: 1, Head: api.MaxSerial, Live: 3}}},
			"FFFFFFFFFFFF0000 0000000000000100 02000000 00000000 02000000 06 010203040506 01 0001 01 FFFFFFFFFFFF 00 0300 00000000",
		},
		"objects": {
			api.State{Cursor: -1, Last: -1, Objects: []api.Object{
				object(2, file("a"), at(0, 1)),
				{Id: 0x012345, Chunks: []api.Chunk{piece(api.MaxChunk, at(4095, 255), 2048)}},
				object(api.MaxObject, api.Node{Type: 3, Parent: 2, Name: "ln", Mode: 4095, Stamp: 1 << 63, Target: "/x"}, at(0x0201, 3), piece(0, at(1, 2), 256), piece(7, at(0, 0), 0)),
			}},
			"0000000000000000 0000000000000000 00000000 00000000 00000000 03000000" +
				"02000000 01 1A 01 01000000 00000000 0000 0000000000000000 00000000 01 61 00 0000 0100 00000000" +
				"45230100 00 01000000 FFFF0F00 FF0F FF00 0008" +
				"FFFF0F00 01 1D 03 02000000 00000000 FF0F 0000000000000080 00000000 02 6C6E 02 2F78 0102 0300 02000000 00000000 0100 0200 0001 07000000 0000 0000 0000",
		},
	} {
		want := unhex(t, x.want)
		if b, e := Pack(x.s); e != api.OK || !bytes.Equal(b, want) {
			t.Errorf("%s: Pack: % x, %d, want % x", what, b, e, want)
		}
		if s, e := Read(want); e != api.OK || !sameState(s, x.s) {
			t.Errorf("%s: Read: %v, %d", what, s, e)
		}
	}
}

func TestK1Lengths(t *testing.T) {
	if b := packed(t, bare()); len(b) != 112 {
		t.Errorf("%d bytes", len(b))
	}
	if b := packed(t, withObjects(object(2, file("a"), at(0, 1)))); len(b) != 152 {
		t.Errorf("%d bytes", len(b))
	}
}

// K1: which states may be packed: each bound, on either side.
func TestK1MayBePacked(t *testing.T) {
	link := api.Node{Type: api.TypeLink, Parent: 1, Name: "l", Target: "x"}
	long := api.Node{Type: api.TypeLink, Parent: 1, Name: strings.Repeat("n", api.MaxName), Target: strings.Repeat("t", api.MaxTarget)}
	shadow, unlinked := file("a"), file("a")
	shadow.Shadow, unlinked.Parent = 3, 0
	block := func(x api.Block) api.State { return with(func(s *api.State) { s.Blocks[7] = x }) }
	one := func(list ...api.Chunk) api.State { return withObjects(object(2, file("a"), at(0, 1), list...)) }
	for what, x := range map[string]struct {
		s    api.State
		want api.Errno
	}{
		"the greatest Floor":     {with(func(s *api.State) { s.Floor = api.MaxSerial }), api.OK},
		"one above":              {with(func(s *api.State) { s.Floor = api.MaxSerial + 1 }), api.ErrSave},
		"no Floor, no Next":      {with(func(s *api.State) { s.Floor, s.Next = 0, 0 }), api.OK},
		"the greatest Next":      {with(func(s *api.State) { s.Next = api.MaxSerial + 1 }), api.OK},
		"one above it":           {with(func(s *api.State) { s.Next = api.MaxSerial + 2 }), api.ErrSave},
		"Cursor 7":               {with(func(s *api.State) { s.Cursor = 7 }), api.OK},
		"Cursor 8":               {with(func(s *api.State) { s.Cursor = 8 }), api.ErrSave},
		"Cursor -1":              {with(func(s *api.State) { s.Cursor = -1 }), api.OK},
		"Cursor -2":              {with(func(s *api.State) { s.Cursor = -2 }), api.ErrSave},
		"Last 7":                 {with(func(s *api.State) { s.Last = 7 }), api.OK},
		"Last 8":                 {with(func(s *api.State) { s.Last = 8 }), api.ErrSave},
		"Last -1":                {with(func(s *api.State) { s.Last = -1 }), api.OK},
		"Last -2":                {with(func(s *api.State) { s.Last = -2 }), api.ErrSave},
		"no blocks":              {api.State{Cursor: -1, Last: -1}, api.OK},
		"no blocks, a cursor":    {api.State{Cursor: 0, Last: -1}, api.ErrSave},
		"no blocks, a last one":  {api.State{Cursor: -1, Last: 0}, api.ErrSave},
		"4096 blocks":            {api.State{Blocks: make([]api.Block, 4096), Cursor: 4095}, api.OK},
		"4097 blocks":            {api.State{Blocks: make([]api.Block, 4097)}, api.ErrSave},
		"State 6":                {block(api.Block{State: 6}), api.OK},
		"State 7":                {block(api.Block{State: 7}), api.ErrSave},
		"State -1":               {block(api.Block{State: -1}), api.ErrSave},
		"the greatest Head":      {block(api.Block{Head: api.MaxSerial}), api.OK},
		"one above that":         {block(api.Block{Head: api.MaxSerial + 1}), api.ErrSave},
		"Live 256":               {block(api.Block{Live: 256}), api.OK},
		"Live 257":               {block(api.Block{Live: 257}), api.ErrSave},
		"Live -1":                {block(api.Block{Live: -1}), api.ErrSave},
		"the object 1":           {withObjects(object(1, file("a"), at(0, 1))), api.ErrSave},
		"the object 2":           {withObjects(object(2, file("a"), at(0, 1))), api.OK},
		"the greatest object":    {withObjects(object(api.MaxObject, file("a"), at(0, 1))), api.OK},
		"one more than it":       {withObjects(object(api.MaxObject+1, file("a"), at(0, 1))), api.ErrSave},
		"3 ahead of 2":           {withObjects(object(3, file("a"), at(0, 1)), object(2, file("a"), at(0, 2))), api.ErrSave},
		"2 twice":                {withObjects(object(2, file("a"), at(0, 1)), object(2, file("a"), at(0, 2))), api.ErrSave},
		"2 and 3":                {withObjects(object(2, file("a"), at(0, 1)), object(3, file("a"), at(0, 1))), api.OK},
		"an object below 0":      {withObjects(api.Object{Id: -2}), api.ErrSave},
		"a header that is none":  {withObjects(object(2, file(""), at(0, 1))), api.ErrSave},
		"a link without target":  {withObjects(object(2, api.Node{Type: 3, Parent: 1, Name: "l"}, at(0, 1))), api.ErrSave},
		"a link":                 {withObjects(object(2, link, at(0, 1))), api.OK},
		"a long link":            {withObjects(object(2, long, at(0, 1))), api.OK},
		"a shadow":               {withObjects(object(2, shadow, at(0, 1))), api.ErrSave},
		"unlinked":               {withObjects(object(2, unlinked, at(0, 1))), api.OK},
		"the greatest place":     {withObjects(object(2, file("a"), at(4095, 255))), api.OK},
		"the least place":        {withObjects(object(2, file("a"), at(0, 0))), api.OK},
		"the block 4096":         {withObjects(object(2, file("a"), at(4096, 0))), api.ErrSave},
		"the page 256":           {withObjects(object(2, file("a"), at(0, 256))), api.ErrSave},
		"a block below 0":        {withObjects(object(2, file("a"), at(-1, 0))), api.ErrSave},
		"a page below 0":         {withObjects(object(2, file("a"), at(0, -1))), api.ErrSave},
		"no header":              {withObjects(api.Object{Id: 2}), api.OK},
		"no header, a node":      {withObjects(api.Object{Id: 2, Node: file("a")}), api.ErrSave},
		"no header, a stamp":     {withObjects(api.Object{Id: 2, Node: api.Node{Stamp: 1}}), api.ErrSave},
		"no header, a place":     {withObjects(api.Object{Id: 2, Place: at(0, 1)}), api.ErrSave},
		"no header, a chunk":     {withObjects(api.Object{Id: 2, Chunks: []api.Chunk{piece(0, at(0, 1), 1)}}), api.OK},
		"the greatest chunk":     {one(piece(api.MaxChunk, at(0, 1), 1)), api.OK},
		"one more than that":     {one(piece(api.MaxChunk+1, at(0, 1), 1)), api.ErrSave},
		"a chunk below 0":        {one(piece(-1, at(0, 1), 1)), api.ErrSave},
		"chunks that fall":       {one(piece(2, at(0, 1), 1), piece(1, at(0, 2), 1)), api.ErrSave},
		"a chunk twice":          {one(piece(2, at(0, 1), 1), piece(2, at(0, 2), 1)), api.ErrSave},
		"a chunk's greatest":     {one(piece(0, at(4095, 255), 2048)), api.OK},
		"a chunk at 4096":        {one(piece(0, at(4096, 0), 1)), api.ErrSave},
		"a chunk at the page -1": {one(piece(0, at(0, -1), 1)), api.ErrSave},
		"a count of 2049":        {one(piece(0, at(0, 1), 2049)), api.ErrSave},
		"a count of 0":           {one(piece(0, at(0, 1), 0)), api.OK},
		"a count below 0":        {one(piece(0, at(0, 1), -1)), api.ErrSave},
		"65536 chunks":           {one(manyChunks(65536)...), api.OK},
		"65537 chunks":           {one(manyChunks(65537)...), api.ErrSave},
	} {
		b, e := Pack(x.s)
		if e != x.want || e != api.OK && b != nil {
			t.Errorf("%s: Pack: %d bytes, %d, want %d", what, len(b), e, x.want)
		}
		if e != api.OK {
			continue
		}
		if s, e := Read(b); e != api.OK || !sameState(s, x.s) {
			t.Errorf("P14.1: %s: Read: %d", what, e)
		}
	}
}

func manyChunks(n int) []api.Chunk {
	var list []api.Chunk
	for k := range n {
		list = append(list, piece(k, at(0, 1), 1))
	}
	return list
}

// laid has the bytes of states that may not be packed, too: so Read is asked what Pack would not tell.
func laid(s api.State) []byte {
	w := &writer{}
	w.number(8, s.Floor).number(8, s.Next).whole(4, s.Cursor+1).whole(4, s.Last+1).whole(4, len(s.Blocks))
	for _, x := range s.Blocks {
		w.whole(1, x.State).number(6, x.Head).flag(x.Real).whole(2, x.Live)
	}
	w.whole(4, len(s.Objects))
	for _, o := range s.Objects {
		w.whole(4, o.Id).header(o).chunks(o.Chunks)
	}
	return w.laid
}

// K1: Read takes no bytes of a state that may not be packed.
func TestK1ReadOfWhatMayNotBe(t *testing.T) {
	shadow := file("a")
	shadow.Shadow = 3
	one := func(list ...api.Chunk) api.State { return withObjects(object(2, file("a"), at(0, 1), list...)) }
	for what, s := range map[string]api.State{
		"a Floor":             with(func(s *api.State) { s.Floor = api.MaxSerial + 1 }),
		"the greatest Floor":  with(func(s *api.State) { s.Floor = 1<<64 - 1 }),
		"a Next":              with(func(s *api.State) { s.Next = api.MaxSerial + 2 }),
		"a Cursor":            with(func(s *api.State) { s.Cursor = 8 }),
		"a great Cursor":      with(func(s *api.State) { s.Cursor = 1<<32 - 2 }),
		"a Last":              with(func(s *api.State) { s.Last = 8 }),
		"4097 blocks":         {Blocks: make([]api.Block, 4097)},
		"a State":             with(func(s *api.State) { s.Blocks[0].State = 7 }),
		"a Live":              with(func(s *api.State) { s.Blocks[0].Live = 257 }),
		"the object 1":        withObjects(object(1, file("a"), at(0, 1))),
		"the object 0":        withObjects(api.Object{}),
		"an object too great": withObjects(api.Object{Id: api.MaxObject + 1}),
		"3 ahead of 2":        withObjects(api.Object{Id: 3}, api.Object{Id: 2}),
		"2 twice":             withObjects(api.Object{Id: 2}, api.Object{Id: 2}),
		"a shadow":            withObjects(object(2, shadow, at(0, 1))),
		"a place's block":     withObjects(object(2, file("a"), at(4096, 1))),
		"a place's page":      withObjects(object(2, file("a"), at(0, 256))),
		"a chunk too great":   one(piece(api.MaxChunk+1, at(0, 1), 1)),
		"chunks that fall":    one(piece(1, at(0, 1), 1), piece(0, at(0, 1), 1)),
		"a chunk twice":       one(piece(1, at(0, 1), 1), piece(1, at(0, 1), 1)),
		"a chunk's block":     one(piece(1, at(4096, 1), 1)),
		"a chunk's page":      one(piece(1, at(0, 256), 1)),
		"a count":             one(piece(1, at(0, 1), 2049)),
		"65537 chunks":        one(manyChunks(65537)...),
	} {
		if s, e := Read(laid(s)); e != api.ErrSave || !reflect.DeepEqual(s, api.State{}) {
			t.Errorf("Read with %s: %v, %d", what, s, e)
		}
	}
	if s, e := Read(laid(one(manyChunks(3)...))); e != api.OK || len(s.Objects[0].Chunks) != 3 {
		t.Errorf("Read: %v, %d", s, e)
	}
}

// K1: Read takes no bytes that are not just a state's.
func TestK1ReadRefuses(t *testing.T) {
	b := packed(t, withObjects(object(2, file("a"), at(0, 1), piece(3, at(1, 2), 5)), api.Object{Id: 4}))
	for n := range b {
		if s, e := Read(b[:n]); e != api.ErrSave || !reflect.DeepEqual(s, api.State{}) {
			t.Errorf("Read of %d bytes: %v, %d", n, s, e)
		}
	}
	turned := func(at int, x byte) []byte {
		c := slices.Clone(b)
		c[at] = x
		return c
	}
	for what, row := range map[string][]byte{
		"nothing":              nil,
		"one byte more":        append(slices.Clone(b), 0),
		"7 blocks":             turned(24, 7),
		"9 blocks":             turned(24, 9),
		"as many as there be":  turned(27, 255),
		"a Real of 2":          turned(35, 2),
		"a Head of 2":          turned(116, 2),
		"a header's length":    turned(117, 25),
		"a longer header":      turned(117, 27),
		"a header's type":      turned(118, 4),
		"a name with a slash":  turned(142, '/'),
		"one object":           turned(108, 1),
		"three objects":        turned(108, 3),
		"objects without end":  turned(111, 255),
		"no chunk":             turned(148, 0),
		"two chunks":           turned(148, 2),
		"chunks without end":   turned(151, 255),
		"a second Head of 255": turned(166, 255),
	} {
		if s, e := Read(row); e != api.ErrSave || !reflect.DeepEqual(s, api.State{}) {
			t.Errorf("Read with %s: %v, %d", what, s, e)
		}
	}
}

// someState picks a state that may be packed.
func someState(r *rand.Rand) api.State {
	s := api.State{Floor: uint64(r.Int63n(1 << 48)), Next: uint64(r.Int63n(1<<48 + 1)), Blocks: make([]api.Block, r.Intn(20))}
	s.Cursor, s.Last = r.Intn(len(s.Blocks)+1)-1, r.Intn(len(s.Blocks)+1)-1
	for n := range s.Blocks {
		s.Blocks[n] = api.Block{State: r.Intn(7), Head: uint64(r.Int63n(1 << 48)), Real: r.Intn(2) == 0, Live: r.Intn(257)}
	}
	for id := 2 + r.Intn(4); len(s.Objects) < r.Intn(9); id += 1 + r.Intn(300) {
		o := api.Object{Id: id}
		if r.Intn(3) > 0 {
			o = object(id, api.Node{Type: 1 + r.Intn(2), Parent: r.Intn(api.MaxObject + 1), Name: "n" + strconv.Itoa(r.Int()), Mode: r.Intn(4096), Stamp: r.Uint64()}, at(r.Intn(4096), r.Intn(256)))
		}
		for k := r.Intn(3); len(o.Chunks) < r.Intn(5); k += 1 + r.Intn(1000) {
			o.Chunks = append(o.Chunks, piece(k, at(r.Intn(4096), r.Intn(256)), r.Intn(2049)))
		}
		s.Objects = append(s.Objects, o)
	}
	return s
}

// P14.1: there and back.
func TestP141ThereAndBack(t *testing.T) {
	for seed := range int64(3000) {
		s := someState(rand.New(rand.NewSource(seed)))
		if got, e := Read(packed(t, s)); e != api.OK || !sameState(got, s) {
			t.Fatalf("Read of Pack(%v): %v, %d", s, got, e)
		}
	}
}

// P14.1: whatever bytes Read takes, Pack tells them again.
func TestP141BackAndThere(t *testing.T) {
	taken := 0
	for seed := range int64(30000) {
		r := rand.New(rand.NewSource(seed))
		b := packed(t, someState(r))
		for range 1 + r.Intn(3) {
			b[r.Intn(len(b))] = someOf(r, 0, 1, 2, 255, byte(r.Intn(256)))
		}
		s, e := Read(b)
		if e == api.ErrSave && reflect.DeepEqual(s, api.State{}) {
			continue
		}
		taken++
		if back, f := Pack(s); e != api.OK || f != api.OK || !bytes.Equal(back, b) {
			t.Fatalf("Pack of Read(% x): % x, %d, %d", b, back, e, f)
		}
	}
	if taken < 5000 || taken > 29000 {
		t.Errorf("%d rows were taken", taken)
	}
}

// K6: what is handed in is not changed and not kept; what is told is new memory.
func TestK6PackAndRead(t *testing.T) {
	s := withObjects(object(2, file("a"), at(0, 1), piece(3, at(1, 2), 5)), object(3, file("b"), at(0, 2), piece(0, at(1, 1), 5)))
	room := make([]api.Block, 8, 20)
	s.Blocks = room
	b := packed(t, s)
	want := slices.Clone(b)
	clear(b)
	if again := packed(t, s); !bytes.Equal(again, want) {
		t.Error("Pack tells something else")
	}
	row := append(make([]byte, 0, 999), want...)
	one, _ := Read(row)
	two, _ := Read(row)
	_ = append(one.Objects[0].Chunks, piece(9, at(9, 9), 9))
	one.Objects[0].Chunks[0].Chunk = 77
	one.Blocks[0].Live = 77
	clear(row)
	if !sameState(two, s) || one.Objects[1].Chunks[0] != piece(0, at(1, 1), 5) || one.Objects[1].Node.Name != "b" {
		t.Errorf("Read tells %v, %v", one, two)
	}
}
