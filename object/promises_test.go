package object

import (
	"math/rand"
	"reflect"
	"slices"
	"testing"

	"shale/api"
)

// record is something that may be taken in, or may not.
type record struct {
	tags api.Tags
	data []byte
	at   api.Place
}

func pick[T any](r *rand.Rand, list ...T) T { return list[r.Intn(len(list))] }

func pickId(r *rand.Rand) int { return pick(r, 2, 2, 2, 3, 4, 5, 6, 7, 16, 17, api.MaxObject) }

func pickPlace(r *rand.Rand, g api.Geometry) api.Place {
	return at(r.Intn(g.Blocks), r.Intn(g.Pages))
}

func pickHeader(t *testing.T, r *rand.Rand, c int) (int, []byte) {
	id := pickId(r)
	n := api.Node{
		Type:   pick(r, 1, 1, 1, 1, 2, 3),
		Parent: pick(r, 0, 1, 1, 1, 2, 3, 4),
		Name:   pick(r, "a", "b", "B", "ab", "\xff"),
		Mode:   r.Intn(4096),
		Stamp:  r.Uint64(),
		Shadow: pick(r, 0, 0, 0, 2, 3, 4, 5),
	}
	if n.Type == api.TypeFile {
		n.Size = pick(r, 0, 1, c-1, c, c+1, 2*c, 3*c-1, r.Intn(6*c), 16*c+3, 17*c, c<<20, c<<20+1)
		n.Size = min(n.Size, 1<<31)
	}
	if n.Type == api.TypeLink {
		n.Target = "x"
	}
	return id, headerBytes(t, n)
}

// pickRecord picks one of which most may be taken in.
func pickRecord(t *testing.T, r *rand.Rand, g api.Geometry) record {
	c := 256 * g.Sectors
	var x record
	x.at = pickPlace(r, g)
	if r.Intn(3) == 0 {
		id, b := pickHeader(t, r, c)
		x.tags, x.data = headerTags(id, b), b
	} else {
		count := pick(r, 1, c-1, c, 1+r.Intn(c))
		x.tags = dataTags(pickId(r), pick(r, 0, 0, 1, 1, 2, 3, 4, 15, 16, api.MaxChunk), count, pick(r, 0, 0, api.FlagCopy, api.FlagCut))
		x.data = make([]byte, count)
	}
	if r.Intn(20) == 0 {
		spoil(r, &x)
	}
	return x
}

func spoil(r *rand.Rand, x *record) {
	switch r.Intn(5) {
	case 0:
		x.at = pick(r, at(-1, 0), at(0, -1), at(99, 0), at(0, 999))
	case 1:
		x.tags.Flags = r.Intn(8)
	case 2:
		x.tags.Count = r.Intn(300)
	case 3:
		x.data = x.data[:r.Intn(len(x.data))]
	case 4:
		x.tags.Object = pick(r, 0, 1, -1, 1<<20)
	}
}

func geometries() []api.Geometry {
	return []api.Geometry{shape(8, 4, 1), shape(8, 8, 2), shape(16, 16, 8)}
}

// histories tells benches behind many records, at many moments.
func histories(t *testing.T, seeds int64, behind func(r *rand.Rand, b *bench)) {
	t.Helper()
	for _, g := range geometries() {
		for seed := range seeds {
			r := rand.New(rand.NewSource(seed))
			b := newBench(t, g)
			for range 120 {
				if r.Intn(12) == 0 {
					b.forget(pick(r, 1, pickId(r)))
				} else {
					x := pickRecord(t, r, g)
					b.apply(x.tags, x.data, x.at)
				}
				behind(r, b)
			}
		}
	}
}

func TestO2ManyRecords(t *testing.T) {
	done := 0
	histories(t, 30, func(_ *rand.Rand, b *bench) { done += b.x.Live() })
	if done == 0 {
		t.Error("nothing was ever current")
	}
}

// anew makes a table of what is current alone, by the public calls.
func anew(t *testing.T, g api.Geometry, objects []api.Object) *Table {
	t.Helper()
	y, _ := New(g)
	for _, o := range objects {
		if o.Head {
			b := headerBytes(t, o.Node)
			if list, e := y.Apply(headerTags(o.Id, b), b, o.Place); len(list) != 0 || e != api.OK {
				t.Fatalf("the header of %d: %v, %d", o.Id, list, e)
			}
		}
		for _, c := range o.Chunks {
			g := dataTags(o.Id, c.Chunk, c.Piece.Count, 0)
			if list, e := y.Apply(g, make([]byte, c.Piece.Count), c.Piece.Place); len(list) != 0 || e != api.OK {
				t.Fatalf("the chunk %d of %d: %v, %d", c.Chunk, o.Id, list, e)
			}
		}
	}
	return y
}

func TestO8WhatIsNotCurrentPlaysNoPart(t *testing.T) {
	histories(t, 5, func(r *rand.Rand, b *bench) {
		if r.Intn(4) == 0 {
			same(t, "made anew", anew(t, b.m.g, b.x.Objects()), b.m)
		}
	})
}

// O8 holds for what is done behind it, too: nothing that the calls do not tell may come out later.
func TestO8MadeAnewAndGoneOnWith(t *testing.T) {
	for _, g := range geometries() {
		for seed := range int64(5) {
			r := rand.New(rand.NewSource(1000 + seed))
			b := newBench(t, g)
			for range 200 {
				x := pickRecord(t, r, g)
				b.apply(x.tags, x.data, x.at)
				if r.Intn(8) == 0 {
					b.x = anew(t, g, b.x.Objects())
				}
			}
		}
	}
}

// freePlace tells a place that is not current; false: there is none.
func freePlace(r *rand.Rand, b *bench) (api.Place, bool) {
	for range 50 {
		p := pickPlace(r, b.m.g)
		if _, _, taken := b.x.At(p); !taken {
			return p, true
		}
	}
	return api.Place{}, false
}

func TestO9SaidAgain(t *testing.T) {
	histories(t, 5, func(r *rand.Rand, b *bench) {
		free, ok := freePlace(r, b)
		objects := b.x.Objects()
		if !ok || len(objects) == 0 {
			return
		}
		i := r.Intn(len(objects))
		o := objects[i]
		var old api.Place
		var list []api.Place
		e := api.OK
		if k := r.Intn(len(o.Chunks) + 1); k < len(o.Chunks) {
			old = o.Chunks[k].Piece.Place
			list, e = b.data(o.Id, o.Chunks[k].Chunk, o.Chunks[k].Piece.Count, pick(r, 0, api.FlagCopy), free)
			o.Chunks[k].Piece.Place = free
		} else if n, there := b.x.Node(o.Id); there == api.OK {
			old = o.Place
			list, e = b.header(o.Id, n, free)
			objects[i].Place = free
		} else {
			return
		}
		if e != api.OK || !slices.Equal(list, []api.Place{old}) || !reflect.DeepEqual(b.x.Objects(), objects) {
			t.Fatalf("said again at %v: %v, %d\n%v, want\n%v", free, list, e, b.x.Objects(), objects)
		}
	})
}

// currentPlaces are those to which At says yes.
func currentPlaces(x *Table, g api.Geometry) []api.Place {
	var list []api.Place
	for block := range g.Blocks {
		for page := range g.Pages {
			if _, _, ok := x.At(at(block, page)); ok {
				list = append(list, at(block, page))
			}
		}
	}
	return list
}

func TestO10PlacesThatAreTold(t *testing.T) {
	for _, g := range geometries() {
		for seed := range int64(20) {
			r := rand.New(rand.NewSource(seed))
			x, _ := New(g)
			for range 150 {
				before := currentPlaces(x, g)
				if x.Live() != len(before) {
					t.Fatalf("Live %d, At says yes to %d", x.Live(), len(before))
				}
				told, more := change(t, r, x, g)
				for _, p := range told {
					if !slices.Contains(before, p) {
						t.Fatalf("%v was told and not current", p)
					}
				}
				want := slices.Concat(before, more)
				want = sortedPlaces(slices.DeleteFunc(want, func(p api.Place) bool { return slices.Contains(told, p) }))
				if now := currentPlaces(x, g); !slices.Equal(now, want) {
					t.Fatalf("current: %v, want %v", now, want)
				}
				if !slices.Equal(told, sortedPlaces(slices.Clone(told))) {
					t.Fatalf("not by place: %v", told)
				}
			}
		}
	}
}

// change takes something in, or forgets something; it tells the places that the table tells, and those that are to be current besides.
func change(t *testing.T, r *rand.Rand, x *Table, g api.Geometry) (told, more []api.Place) {
	if r.Intn(8) == 0 {
		told, _ = x.Forget(pickId(r))
		return told, nil
	}
	c := pickRecord(t, r, g)
	told, e := x.Apply(c.tags, c.data, c.at)
	if e == api.OK {
		more = []api.Place{c.at}
	}
	return told, more
}

func TestO11NoChunkBehindTheSize(t *testing.T) {
	seen := 0
	histories(t, 5, func(_ *rand.Rand, b *bench) {
		c := 256 * b.m.g.Sectors
		for _, o := range b.x.Objects() {
			for _, k := range o.Chunks {
				if o.Head && (o.Node.Size <= k.Chunk*c || o.Node.Size < k.Chunk*c+k.Piece.Count) {
					t.Fatalf("the size is %d, the chunk %d has %d", o.Node.Size, k.Chunk, k.Piece.Count)
				}
				if k.Piece.Count < 1 || o.Head && o.Node.Type != api.TypeFile {
					t.Fatalf("a chunk that may not be: %v", o)
				}
				seen++
			}
		}
	})
	if seen == 0 {
		t.Error("no chunk was ever seen")
	}
}
