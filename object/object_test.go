package object

import (
	"bytes"
	"math"
	"reflect"
	"slices"
	"strings"
	"testing"

	"shale/api"
	"shale/node"
)

func shape(blocks, pages, sectors int) api.Geometry {
	return api.Geometry{Blocks: blocks, Pages: pages, Sectors: sectors}
}

func at(block, page int) api.Place { return api.Place{Block: block, Page: page} }

// bench holds a table and the model of it against one another, record by record.
type bench struct {
	t *testing.T
	x *Table
	m *model
}

func newBench(t *testing.T, g api.Geometry) *bench {
	t.Helper()
	x, e := New(g)
	if x == nil || e != api.OK {
		t.Fatalf("New(%v) = %d", g, e)
	}
	return &bench{t, x, newModel(g)}
}

// apply fails unless the table answers what the model does, and tells the same behind it.
func (b *bench) apply(g api.Tags, data []byte, p api.Place) ([]api.Place, api.Errno) {
	b.t.Helper()
	want, e := b.m.apply(g, data, p)
	got, f := b.x.Apply(g, data, p)
	if !slices.Equal(got, want) || f != e {
		b.t.Fatalf("Apply(%v, %d bytes, %v) = %v, %d, want %v, %d", g, len(data), p, got, f, want, e)
	}
	same(b.t, "behind Apply", b.x, b.m)
	return got, f
}

func (b *bench) forget(id int) ([]api.Place, api.Errno) {
	b.t.Helper()
	want, e := b.m.forget(id)
	got, f := b.x.Forget(id)
	if !slices.Equal(got, want) || f != e {
		b.t.Fatalf("Forget(%d) = %v, %d, want %v, %d", id, got, f, want, e)
	}
	same(b.t, "behind Forget", b.x, b.m)
	return got, f
}

// headerTags and headerBytes are those of a header that may be.
func headerTags(id int, b []byte) api.Tags {
	return api.Tags{Kind: api.KindNode, Serial: 9, Begin: 3, Object: id, Count: len(b)}
}

func headerBytes(t *testing.T, n api.Node) []byte {
	t.Helper()
	b, e := node.Pack(n)
	if e != api.OK {
		t.Fatalf("Pack(%v) = %d", n, e)
	}
	return b
}

func (b *bench) header(id int, n api.Node, p api.Place) ([]api.Place, api.Errno) {
	b.t.Helper()
	bytes := headerBytes(b.t, n)
	return b.apply(headerTags(id, bytes), bytes, p)
}

func file(parent int, name string, size int) api.Node {
	return api.Node{Type: api.TypeFile, Parent: parent, Name: name, Size: size}
}

func dir(parent int, name string) api.Node {
	return api.Node{Type: api.TypeDir, Parent: parent, Name: name}
}

func dataTags(id, chunk, n, flags int) api.Tags {
	return api.Tags{Kind: api.KindData, Flags: flags, Serial: 9, Begin: 3, Object: id, Chunk: chunk, Count: n}
}

func (b *bench) data(id, chunk, n, flags int, p api.Place) ([]api.Place, api.Errno) {
	b.t.Helper()
	return b.apply(dataTags(id, chunk, n, flags), make([]byte, n), p)
}

// answered fails unless an answer is these places and OK.
func (b *bench) answered(list []api.Place, e api.Errno) func(want ...api.Place) {
	return func(want ...api.Place) {
		b.t.Helper()
		if e != api.OK || !slices.Equal(list, want) {
			b.t.Errorf("%v, %d, want %v, OK", list, e, want)
		}
	}
}

// refused fails unless an answer is this error and nothing else.
func (b *bench) refused(list []api.Place, e api.Errno) func(want api.Errno) {
	return func(want api.Errno) {
		b.t.Helper()
		if e != want || list != nil {
			b.t.Errorf("%v, %d, want %d", list, e, want)
		}
	}
}

func TestExamples(t *testing.T) {
	b := newBench(t, shape(8, 4, 1))
	size := func(want int) {
		t.Helper()
		if n, e := b.x.Node(2); n.Size != want || e != api.OK {
			t.Errorf("Node(2).Size = %d, %d, want %d", n.Size, e, want)
		}
	}
	piece := func(chunk int, want api.Piece) {
		t.Helper()
		if p, ok := b.x.Piece(2, chunk); p != want || !ok {
			t.Errorf("Piece(2, %d) = %v, %v, want %v", chunk, p, ok, want)
		}
	}
	loose := func(want ...int) {
		t.Helper()
		if l := b.x.Loose(); !slices.Equal(l, want) {
			t.Errorf("Loose: %v, want %v", l, want)
		}
	}
	b.answered(b.header(2, file(1, "a", 0), at(0, 1)))()
	if id, ok := b.x.Find(1, "a"); id != 2 || !ok || b.x.Fresh() != 3 {
		t.Errorf("Find: %d, %v; Fresh: %d", id, ok, b.x.Fresh())
	}
	b.answered(b.data(2, 0, 256, 0, at(0, 2)))()
	b.answered(b.data(2, 1, 10, 0, at(0, 3)))()
	size(266)
	b.refused(b.data(2, 1, 10, 0, at(0, 3)))(api.ErrRecord)
	b.answered(b.data(2, 0, 5, 0, at(1, 1)))(at(0, 2))
	size(266)
	piece(0, api.Piece{Place: at(1, 1), Count: 5})
	b.answered(b.header(2, file(1, "b", 258), at(1, 2)))(at(0, 1))
	piece(1, api.Piece{Place: at(0, 3), Count: 2})
	size(258)
	b.answered(b.data(2, 0, 100, api.FlagCut, at(1, 3)))(at(0, 3), at(1, 1))
	size(100)
	if b.x.Live() != 2 {
		t.Errorf("Live: %d", b.x.Live())
	}
	shadow := file(1, "c", 0)
	shadow.Shadow = 2
	b.answered(b.header(3, shadow, at(2, 1)))()
	if n, _ := b.x.Node(2); n.Parent != 0 {
		t.Errorf("Node(2).Parent = %d", n.Parent)
	}
	loose(2)
	b.answered(b.data(9, 4, 1, 0, at(2, 2)))()
	loose(2, 9)
	if n, e := b.x.Node(9); n != (api.Node{}) || e != api.ErrObject || b.x.Fresh() != 4 {
		t.Errorf("Node(9) = %v, %d; Fresh: %d", n, e, b.x.Fresh())
	}
	b.answered(b.forget(2))(at(1, 2), at(1, 3))
	b.refused(b.forget(1))(api.ErrObject)
	if b.x.Live() != 2 {
		t.Errorf("Live: %d", b.x.Live())
	}
	b.answered(b.header(9, dir(1, "d"), at(2, 3)))(at(2, 2))
	b.refused(b.data(9, 0, 1, 0, at(3, 1)))(api.ErrRecord)
}

func TestO1Geometries(t *testing.T) {
	for _, g := range []api.Geometry{shape(8, 4, 1), shape(4096, 4, 8), shape(256, 256, 1), shape(4096, 16, 1), shape(8, 256, 8)} {
		x, e := New(g)
		if x == nil || e != api.OK {
			t.Fatalf("New(%v) = %d", g, e)
		}
		if x.Live() != 0 || len(x.Objects()) != 0 || x.Fresh() != 2 || len(x.Loose()) != 0 {
			t.Errorf("New(%v) is not without objects", g)
		}
		if _, e := x.Apply(dataTags(2, 0, 1, 0), []byte{1}, at(g.Blocks-1, g.Pages-1)); e != api.OK {
			t.Errorf("New(%v): its last place is refused: %d", g, e)
		}
	}
	for _, g := range []api.Geometry{{}, shape(7, 4, 1), shape(4097, 4, 1), shape(8, 3, 1), shape(8, 257, 1), shape(8, 4, 0), shape(8, 4, 9), shape(4096, 17, 1), shape(257, 256, 1), shape(-8, -4, 1), shape(math.MaxInt, math.MaxInt, 1), shape(1<<32, 1<<32, 1), shape(math.MinInt, 4, 1), shape(8, 4, math.MinInt)} {
		if x, e := New(g); x != nil || e != api.ErrShape {
			t.Errorf("New(%v) = %d, want ErrShape", g, e)
		}
	}
}

// filled has a file with chunks, a directory, a link, a phantom, an object that is unlinked.
func filled(t *testing.T) *bench {
	t.Helper()
	b := newBench(t, shape(8, 8, 1))
	b.header(2, file(1, "a", 0), at(0, 1))
	b.data(2, 0, 256, 0, at(0, 2))
	b.data(2, 1, 10, 0, at(0, 3))
	b.data(2, 4, 7, 0, at(0, 4))
	b.header(3, dir(1, "d"), at(1, 1))
	b.header(4, api.Node{Type: api.TypeLink, Parent: 3, Name: "l", Target: "t"}, at(1, 2))
	b.data(5, 2, 9, 0, at(1, 3))
	b.header(6, file(0, "u", 0), at(1, 4))
	return b
}

func TestO2Places(t *testing.T) {
	b := filled(t)
	for _, p := range []api.Place{at(-1, 0), at(8, 0), at(0, -1), at(0, 8), at(8, 8), at(math.MinInt, 0), at(0, math.MaxInt), at(1<<32, 0)} {
		b.refused(b.data(2, 0, 1, 0, p))(api.ErrPlace)
		b.refused(b.apply(api.Tags{}, nil, p))(api.ErrPlace)                                        // ahead of ErrField
		b.refused(b.apply(dataTags(2, 0, 9, 0), nil, p))(api.ErrPlace)                              // ahead of ErrRecord
		b.refused(b.apply(api.Tags{Kind: api.KindHead, Serial: 1, Begin: 1}, nil, p))(api.ErrPlace) // a head, too
	}
	for _, p := range []api.Place{at(0, 0), at(7, 7), at(0, 7), at(7, 0)} {
		if _, e := b.data(7, p.Block, 1, 0, p); e != api.OK {
			t.Errorf("at %v: %d", p, e)
		}
	}
}

func TestO2TagsThatMayNotBe(t *testing.T) {
	b := filled(t)
	free := at(5, 5)
	full := make([]byte, 256)
	for _, set := range []func(g *api.Tags){
		func(g *api.Tags) { g.Kind = 0 },
		func(g *api.Tags) { g.Kind = 5 },
		func(g *api.Tags) { g.Serial, g.Begin = 0, 0 },
		func(g *api.Tags) { g.Begin = g.Serial + 1 },
		func(g *api.Tags) { g.Serial = api.MaxSerial + 1 },
		func(g *api.Tags) { g.Object = 1 },
		func(g *api.Tags) { g.Object = 0 },
		func(g *api.Tags) { g.Object = -2 },
		func(g *api.Tags) { g.Object = api.MaxObject + 1 },
		func(g *api.Tags) { g.Chunk = -1 },
		func(g *api.Tags) { g.Chunk = api.MaxChunk + 1 },
		func(g *api.Tags) { g.Count = 0 },
		func(g *api.Tags) { g.Count = -1 },
		func(g *api.Tags) { g.Count = 257 },
		func(g *api.Tags) { g.Flags = 3 },
		func(g *api.Tags) { g.Flags = 4 },
		func(g *api.Tags) { g.Flags = -1 },
	} {
		g := dataTags(2, 0, 1, 0)
		set(&g)
		b.refused(b.apply(g, full, free))(api.ErrField)
		b.refused(b.apply(g, nil, free))(api.ErrField)        // ahead of ErrRecord
		b.refused(b.apply(g, full, at(0, 1)))(api.ErrField)   // ahead of a place that is current
		b.refused(b.apply(g, full, at(99, 99)))(api.ErrPlace) // behind ErrPlace
	}
}

func TestO2ZerosPlayNoPart(t *testing.T) {
	b := newBench(t, shape(8, 4, 1))
	for i, zeros := range []int{0, 1, 8 * 259, 8*259 + 1, 1 << 16, -1, math.MinInt, math.MaxInt} {
		g := dataTags(2, i, 3, 0)
		g.Zeros = zeros
		b.answered(b.apply(g, []byte{1, 2, 3}, at(i, 0)))()
		header := headerBytes(t, file(1, "a", 256*9))
		g = headerTags(2, header)
		g.Zeros = zeros
		if _, e := b.apply(g, header, at(i, 1)); e != api.OK {
			t.Errorf("Zeros %d: %d", zeros, e)
		}
	}
}

func TestO2SerialsAndCopiesPlayNoPart(t *testing.T) {
	b := newBench(t, shape(8, 4, 1))
	header := headerBytes(t, file(1, "a", 0))
	for i, c := range []struct {
		serial, begin uint64
		flags         int
	}{{9, 9, 0}, {1, 1, 0}, {api.MaxSerial, api.MaxSerial, api.FlagCopy}, {5, 2, api.FlagCopy}, {9, 1, 0}} {
		tag := api.Tags{Kind: api.KindNode, Flags: c.flags, Serial: c.serial, Begin: c.begin, Object: 2, Count: len(header)}
		if _, e := b.apply(tag, header, at(i, 0)); e != api.OK {
			t.Errorf("a header of %v: %d", c, e)
		}
		tag = api.Tags{Kind: api.KindData, Flags: c.flags, Serial: c.serial, Begin: c.begin, Object: 2, Chunk: 3, Count: 2}
		if _, e := b.apply(tag, []byte{1, 2}, at(i, 1)); e != api.OK {
			t.Errorf("a chunk of %v: %d", c, e)
		}
	}
}

func TestO2TooFewBytes(t *testing.T) {
	b := filled(t)
	b.refused(b.apply(dataTags(2, 0, 2, 0), []byte{1}, at(5, 5)))(api.ErrRecord)
	b.refused(b.apply(dataTags(2, 0, 1, 0), nil, at(5, 5)))(api.ErrRecord)
	b.refused(b.apply(dataTags(2, 0, 256, 0), make([]byte, 255, 300), at(5, 5)))(api.ErrRecord)
	header := headerBytes(t, file(1, "a", 0))
	b.refused(b.apply(headerTags(2, header), header[:len(header)-1], at(5, 5)))(api.ErrRecord)
	save := api.Tags{Kind: api.KindSave, Flags: api.FlagEnd, Serial: 1, Begin: 1, Object: 1, Count: 4}
	b.refused(b.apply(save, []byte{1, 2, 3}, at(5, 5)))(api.ErrRecord) // ahead of doing nothing
	b.answered(b.apply(save, []byte{1, 2, 3, 4}, at(5, 5)))()
	b.answered(b.apply(save, []byte{1, 2, 3, 4, 5}, at(5, 5)))()
}

func TestO2HeadsAndSavesDoNothing(t *testing.T) {
	b := filled(t)
	for _, p := range []api.Place{at(5, 5), at(0, 1), at(0, 2)} { // where something is current, too
		b.answered(b.apply(api.Tags{Kind: api.KindHead, Serial: 1, Begin: 1}, nil, p))()
		b.answered(b.apply(api.Tags{Kind: api.KindHead, Serial: 1, Begin: 1}, []byte{1}, p))()
		b.answered(b.apply(api.Tags{Kind: api.KindSave, Serial: 1, Begin: 1, Object: 2, Count: 5}, make([]byte, 5), p))()
	}
}

func TestO2PlacesThatAreCurrent(t *testing.T) {
	b := filled(t)
	for _, p := range []api.Place{at(0, 1), at(0, 2), at(0, 3), at(0, 4), at(1, 1), at(1, 2), at(1, 3), at(1, 4)} {
		b.refused(b.data(2, 0, 1, 0, p))(api.ErrRecord)
		b.refused(b.data(2, 0, 1, api.FlagCut, p))(api.ErrRecord)
		b.refused(b.data(8, 0, 1, 0, p))(api.ErrRecord)
		b.refused(b.header(2, file(1, "x", 0), p))(api.ErrRecord)
		b.refused(b.header(8, file(1, "x", 0), p))(api.ErrRecord)
	}
	b.answered(b.data(2, 0, 1, 0, at(2, 2)))(at(0, 2))
	b.answered(b.header(8, file(1, "x", 0), at(0, 2)))() // it has become free
}

func TestO2HeadersThatAreNone(t *testing.T) {
	b := filled(t)
	good := headerBytes(t, file(1, "a", 300))
	spoilt := slices.Clone(good)
	spoilt[0] = 4
	slash := slices.Clone(good)
	slash[24] = '/'
	sized := slices.Clone(headerBytes(t, dir(1, "d")))
	sized[5] = 1
	for _, id := range []int{2, 3, 5, 8} {
		for _, data := range [][]byte{{1}, spoilt, slash, sized, good[:len(good)-1], append(slices.Clone(good), 0), make([]byte, 256)} {
			b.refused(b.apply(headerTags(id, data), data, at(5, 5)))(api.ErrRecord)
		}
	}
	behind := append(slices.Clone(good), 1, 2, 3) // what lies behind Count bytes plays no part
	b.answered(b.apply(headerTags(8, good), behind, at(5, 5)))()
}

func TestO2Shadows(t *testing.T) {
	with := func(n api.Node, shadow int) api.Node { n.Shadow = shadow; return n }
	b := filled(t)
	for _, id := range []int{2, 8, api.MaxObject} {
		b.refused(b.header(id, with(file(1, "x", 0), id), at(5, 5)))(api.ErrRecord)
	}
	b.answered(b.header(7, with(file(1, "x", 0), 2), at(2, 1)))()
	if n, _ := b.x.Node(2); n.Parent != 0 || n.Name != "a" || n.Size != 4*256+7 {
		t.Errorf("in whose place another one has come: %v", n)
	}
	if n, _ := b.x.Node(7); n.Shadow != 0 {
		t.Errorf("Shadow is %d", n.Shadow)
	}
	b.answered(b.header(8, with(file(1, "y", 0), 3), at(2, 2)))() // a directory, with an entry
	b.answered(b.header(9, with(file(1, "z", 0), 5), at(2, 3)))() // a phantom
	b.answered(b.header(9, with(file(1, "z", 0), 6), at(2, 4)))(at(2, 3))
	b.answered(b.header(9, with(file(1, "z", 0), 200), at(2, 5)))(at(2, 4)) // none
	if list, e := b.x.List(3); e != api.OK || len(list) != 1 {
		t.Errorf("what is in a directory that is unlinked: %v, %d", list, e)
	}
	b.answered(b.header(2, file(1, "a", 0), at(2, 6)))(at(0, 1), at(0, 2), at(0, 3), at(0, 4)) // it comes back
}

func TestO2SizesOfHeaders(t *testing.T) {
	for _, sectors := range []int{1, 3, 8} {
		most := 256 * sectors << 20
		for _, size := range []int{most - 1, most, most + 1, 2 * most, 1 << 31} {
			if size > 1<<31 {
				continue // no header has such a size
			}
			b := newBench(t, shape(8, 4, sectors))
			b.data(2, api.MaxChunk, 256*sectors, 0, at(1, 1))
			want := api.OK
			if size > most {
				want = api.ErrRecord
			}
			if _, e := b.header(2, file(1, "a", size), at(0, 0)); e != want {
				t.Errorf("%d sectors, size %d: %d, want %d", sectors, size, e, want)
			}
		}
	}
}

func TestO2HeadersCutOff(t *testing.T) {
	chunks := []int{0, 1, 2, 3, 15, 16, 17, 256, api.MaxChunk}
	for _, sectors := range []int{1, 2, 8} {
		c := 256 * sectors
		for _, size := range []int{0, 1, c - 1, c, c + 1, 2*c - 1, 2 * c, 2*c + 1, 3*c + 5, 4 * c, 15*c + 1, 16 * c, 16*c + 1, 17 * c, 300 * c, api.MaxChunk * c, api.MaxChunk*c + 1, api.MaxChunk*c + c} {
			for _, count := range []int{1, 2, c - 1, c} {
				for _, headed := range []bool{true, false} {
					b := newBench(t, shape(8, 16, sectors))
					if headed {
						b.header(2, file(1, "a", 0), at(7, 0))
					}
					for i, chunk := range chunks {
						b.data(2, chunk, count, 0, at(i/4, 3-i%4))
					}
					if _, e := b.header(2, file(1, "a", size), at(6, 6)); e != api.OK {
						t.Errorf("a header of the size %d: %d", size, e)
					}
				}
			}
		}
	}
}

func TestO2HeadersOfOtherTypes(t *testing.T) {
	b := filled(t)
	b.answered(b.header(2, dir(1, "a"), at(2, 0)))(at(0, 1), at(0, 2), at(0, 3), at(0, 4))
	b.refused(b.data(2, 0, 1, 0, at(2, 1)))(api.ErrRecord)
	b.refused(b.data(2, 0, 1, api.FlagCut, at(2, 1)))(api.ErrRecord)
	b.refused(b.data(3, 0, 1, 0, at(2, 1)))(api.ErrRecord)
	b.refused(b.data(4, 0, 1, 0, at(2, 1)))(api.ErrRecord)
	b.answered(b.header(2, file(1, "a", 0), at(2, 1)))(at(2, 0))
	b.answered(b.data(2, 0, 1, 0, at(2, 2)))()
	b.answered(b.data(6, 3, 1, 0, at(2, 3)))() // what is unlinked is written on
	if n, _ := b.x.Node(6); n.Size != 3*256+1 || n.Parent != 0 {
		t.Errorf("Node(6) = %v", n)
	}
}

func TestO2Chunks(t *testing.T) {
	for _, headed := range []bool{true, false} {
		for _, size := range []int{0, 1, 256*2 + 100, 256 * 20} {
			for _, chunk := range []int{0, 1, 2, 3, 16, api.MaxChunk} {
				for _, count := range []int{1, 100, 255, 256} {
					for _, flags := range []int{0, api.FlagCopy, api.FlagCut} {
						b := newBench(t, shape(8, 8, 1))
						if headed {
							b.header(2, file(1, "a", size), at(7, 0))
						}
						b.data(2, 1, 200, 0, at(3, 1))
						b.data(2, 2, 50, 0, at(2, 7))
						b.data(2, 17, 256, 0, at(3, 0))
						if _, e := b.data(2, chunk, count, flags, at(4, 4)); e != api.OK {
							t.Errorf("the chunk %d: %d", chunk, e)
						}
					}
				}
			}
		}
	}
}

func TestO3TheRoot(t *testing.T) {
	b := filled(t)
	if n, e := b.x.Node(1); n != (api.Node{Type: api.TypeDir, Parent: 1, Mode: 493}) || e != api.OK {
		t.Errorf("Node(1) = %v, %d", n, e)
	}
	if p, ok := b.x.Header(1); p != (api.Place{}) || ok {
		t.Errorf("Header(1) = %v, %v", p, ok)
	}
	if p, ok := b.x.Piece(1, 0); p != (api.Piece{}) || ok {
		t.Errorf("Piece(1, 0) = %v, %v", p, ok)
	}
	if id, ok := b.x.Find(1, ""); id != 0 || ok {
		t.Errorf("the root is found in itself: %d, %v", id, ok)
	}
}

func TestO4OfOneName(t *testing.T) {
	b := newBench(t, shape(8, 4, 1))
	b.header(9, file(1, "a", 0), at(0, 0))
	b.header(4, dir(1, "a"), at(0, 1))
	b.header(300, file(1, "a", 0), at(0, 2))
	b.header(5, file(1, "Z", 0), at(0, 3))
	b.header(6, file(1, "a\xff", 0), at(1, 0))
	b.header(7, file(1, "é", 0), at(1, 1))
	b.header(8, file(4, "a", 0), at(1, 2))
	b.header(3, file(0, "a", 0), at(1, 3))
	b.header(2, file(77, "a", 0), at(2, 0)) // in what is not there
	b.header(10, dir(10, "a"), at(2, 1))    // in itself
	list, e := b.x.List(1)
	want := []api.Entry{{Name: "Z", Id: 5, Type: 1}, {Name: "a", Id: 4, Type: 2}, {Name: "a", Id: 9, Type: 1}, {Name: "a", Id: 300, Type: 1}, {Name: "a\xff", Id: 6, Type: 1}, {Name: "é", Id: 7, Type: 1}}
	if e != api.OK || !slices.Equal(list, want) {
		t.Errorf("List(1) = %v, %d, want %v", list, e, want)
	}
	for _, c := range []struct {
		parent, id int
		name       string
	}{{1, 4, "a"}, {4, 8, "a"}, {77, 2, "a"}, {10, 10, "a"}, {1, 7, "é"}, {0, 0, "a"}, {-1, 0, "a"}, {1, 0, "z"}, {1, 0, ""}, {2, 0, "a"}, {math.MinInt, 0, "a"}} {
		if id, ok := b.x.Find(c.parent, c.name); id != c.id || ok != (c.id != 0) {
			t.Errorf("Find(%d, %q) = %d, %v, want %d", c.parent, c.name, id, ok, c.id)
		}
	}
	if list, e := b.x.List(77); list != nil || e != api.ErrObject {
		t.Errorf("List(77) = %v, %d", list, e)
	}
	if list, e := b.x.List(10); len(list) != 1 || e != api.OK {
		t.Errorf("List(10) = %v, %d", list, e)
	}
	b.forget(4)
	if id, ok := b.x.Find(1, "a"); id != 9 || !ok {
		t.Errorf("Find = %d, %v", id, ok)
	}
	b.header(9, file(1, "b", 0), at(3, 3))
	if id, ok := b.x.Find(1, "a"); id != 300 || !ok {
		t.Errorf("Find = %d, %v", id, ok)
	}
}

func TestO5Fresh(t *testing.T) {
	b := newBench(t, shape(8, 8, 1))
	for i, c := range []struct{ id, fresh int }{{3, 2}, {2, 4}, {api.MaxObject, 4}, {5, 4}, {4, 6}, {18, 6}, {6, 7}} {
		b.data(c.id, 0, 1, 0, at(i, 0))
		if b.x.Fresh() != c.fresh {
			t.Errorf("with %d: Fresh = %d, want %d", c.id, b.x.Fresh(), c.fresh)
		}
	}
	b.forget(5)
	b.forget(18)
	if b.x.Fresh() != 5 {
		t.Errorf("Fresh = %d, want 5", b.x.Fresh())
	}
	b.forget(2)
	if b.x.Fresh() != 2 {
		t.Errorf("Fresh = %d, want 2", b.x.Fresh())
	}
}

func TestO5ObjectsAreWhole(t *testing.T) {
	b := filled(t)
	want := []api.Object{
		{Id: 2, Head: true, Node: file(1, "a", 4*256+7), Place: at(0, 1), Chunks: []api.Chunk{
			{Chunk: 0, Piece: api.Piece{Place: at(0, 2), Count: 256}},
			{Chunk: 1, Piece: api.Piece{Place: at(0, 3), Count: 10}},
			{Chunk: 4, Piece: api.Piece{Place: at(0, 4), Count: 7}},
		}},
		{Id: 3, Head: true, Node: dir(1, "d"), Place: at(1, 1)},
		{Id: 4, Head: true, Node: api.Node{Type: api.TypeLink, Parent: 3, Name: "l", Target: "t"}, Place: at(1, 2)},
		{Id: 5, Chunks: []api.Chunk{{Chunk: 2, Piece: api.Piece{Place: at(1, 3), Count: 9}}}},
		{Id: 6, Head: true, Node: file(0, "u", 0), Place: at(1, 4)},
	}
	if got := b.x.Objects(); !reflect.DeepEqual(got, want) {
		t.Errorf("Objects\n%v, want\n%v", got, want)
	}
}

func TestO6Forget(t *testing.T) {
	b := filled(t)
	for _, id := range []int{1, 0, -1, 7, 8, 1 << 20, 1<<32 + 2, math.MinInt, math.MaxInt} {
		b.refused(b.forget(id))(api.ErrObject)
	}
	b.answered(b.forget(5))(at(1, 3))
	b.refused(b.forget(5))(api.ErrObject)
	b.data(2, 1, 3, 0, at(0, 0))
	b.header(2, file(1, "a", 5*256), at(3, 1))
	b.answered(b.forget(2))(at(0, 0), at(0, 2), at(0, 4), at(3, 1))
	b.answered(b.header(2, file(1, "new", 0), at(0, 2)))() // nothing is left of the one ahead
	if _, ok := b.x.Piece(2, 0); ok {
		t.Error("a chunk of the one ahead is there")
	}
	b.answered(b.forget(3))(at(1, 1)) // what is in a directory stays
	if n, e := b.x.Node(4); n.Parent != 3 || e != api.OK {
		t.Errorf("Node(4) = %v, %d", n, e)
	}
}

func TestO7WhatIsHandedInIsNotChangedNorKept(t *testing.T) {
	b := newBench(t, shape(8, 4, 1))
	long := api.Node{Type: api.TypeLink, Parent: 1, Name: strings.Repeat("n", 63), Target: strings.Repeat("t", 127)}
	header := headerBytes(t, long)
	data := append(slices.Clone(header), 1, 2, 3)
	room := data[:len(header)]
	b.apply(headerTags(2, header), room, at(0, 0))
	if !bytes.Equal(data[:len(header)], header) || !bytes.Equal(data[len(header):], []byte{1, 2, 3}) {
		t.Error("what was handed in was changed")
	}
	for i := range data {
		data[i] = 'x'
	}
	if n, _ := b.x.Node(2); n != long {
		t.Errorf("what was handed in was kept: %v", n)
	}
	same(t, "behind it", b.x, b.m)
}

func TestO7AnswersAreNewMemory(t *testing.T) {
	b := filled(t)
	for range 2 {
		objects := b.x.Objects()
		for i := range objects {
			chunks := append(objects[i].Chunks, api.Chunk{Chunk: 99})
			for k := range chunks {
				chunks[k] = api.Chunk{Chunk: -1}
			}
			for k := range objects[i].Chunks {
				objects[i].Chunks[k] = api.Chunk{Chunk: -1}
			}
			objects[i] = api.Object{Id: -1}
		}
		list, _ := b.x.List(1)
		for i := range list {
			list[i] = api.Entry{}
		}
		loose := b.x.Loose()
		for i := range loose {
			loose[i] = -1
		}
		same(t, "written into answers", b.x, b.m)
	}
	gone, _ := b.forget(2)
	for i := range gone {
		gone[i] = at(1, 1)
	}
	same(t, "written into what Forget told", b.x, b.m)
}

func TestO7ListsOfOneAnswerShareNothing(t *testing.T) {
	b := newBench(t, shape(8, 8, 1))
	for i := range 20 {
		b.data(2+i%4, i/4, 1+i, 0, at(i/8, i%8))
	}
	objects := b.x.Objects()
	for i := range objects {
		_ = append(objects[i].Chunks, api.Chunk{Chunk: 77})
	}
	if !reflect.DeepEqual(objects, b.m.all()) {
		t.Error("appending to one list has changed another")
	}
}

func TestO7TwoTables(t *testing.T) {
	a, b := filled(t), newBench(t, shape(8, 8, 1))
	same(t, "the other", b.x, b.m)
	b.header(2, dir(1, "other"), at(0, 1))
	b.data(9, 1, 1, 0, at(0, 2))
	b.forget(2)
	same(t, "the one", a.x, a.m)
	a.forget(2)
	same(t, "the other", b.x, b.m)
}
