package log

import (
	"maps"
	"math/rand"
	"reflect"
	"slices"
	"strconv"
	"testing"

	"shale/api"
	"shale/node"
)

// tree is what records come to, without a chip: objects by their numbers.
type tree map[int]thing

type thing struct {
	node   api.Node
	chunks map[int]string // the bytes that count
}

// with tells the tree behind a record; the one ahead stays as it is.
func (x tree) with(t *testing.T, r api.Record, c int) tree {
	t.Helper()
	next := maps.Clone(x)
	o := next[r.Object]
	o.chunks = maps.Clone(o.chunks)
	if o.chunks == nil {
		o.chunks = map[int]string{}
	}
	if r.Kind == api.KindNode {
		n, e := node.Read(r.Data)
		if e != api.OK {
			t.Fatalf("a record that is none: %d", e)
		}
		if s, there := next[n.Shadow]; there {
			s.node.Parent = 0
			next[n.Shadow] = s
		}
		n.Shadow = 0
		o.node = n
		o.cut(n.Size, c)
	} else {
		end := r.Chunk*c + len(r.Data)
		o.chunks[r.Chunk] = string(r.Data)
		if r.Flags == api.FlagCut {
			o.cut(end, c)
			o.node.Size = end
		}
		o.node.Size = max(o.node.Size, end)
	}
	next[r.Object] = o
	return next
}

// cut takes away what lies behind a size.
func (o thing) cut(size, c int) {
	for k, data := range o.chunks {
		if k*c >= size {
			delete(o.chunks, k)
		} else if k*c+len(data) > size {
			o.chunks[k] = data[:size-k*c]
		}
	}
}

func (x tree) without(id int) tree {
	next := maps.Clone(x)
	delete(next, id)
	return next
}

// linked tells the tree without those that a mount forgets.
func (x tree) linked() tree {
	next := maps.Clone(x)
	maps.DeleteFunc(next, func(_ int, o thing) bool { return o.node.Parent == 0 })
	return next
}

func (x tree) same(other tree) bool { return reflect.DeepEqual(x, other) }

func (x tree) live() int {
	n := len(x)
	for _, o := range x {
		n += len(o.chunks)
	}
	return n
}

// grows tells whether a record needs one page more.
func (x tree) grows(r api.Record) bool {
	o, there := x[r.Object]
	if r.Kind == api.KindData {
		_, there = o.chunks[r.Chunk]
	}
	return !there
}

// pick picks an object that is so; 0: there is none.
func (x tree) pick(r *rand.Rand, so func(o thing) bool) int {
	var list []int
	for _, id := range slices.Sorted(maps.Keys(x)) {
		if so(x[id]) {
			list = append(list, id)
		}
	}
	if len(list) == 0 {
		return 0
	}
	return list[r.Intn(len(list))]
}

func isFile(o thing) bool     { return o.node.Type == api.TypeFile }
func isLinked(o thing) bool   { return o.node.Parent != 0 }
func isUnlinked(o thing) bool { return o.node.Parent == 0 }
func isAny(thing) bool        { return true }

func headerOf(t *testing.T, id int, n api.Node) api.Record {
	t.Helper()
	b, e := node.Pack(n)
	if e != api.OK {
		t.Fatalf("Pack(%v): %d", n, e)
	}
	return api.Record{Kind: api.KindNode, Object: id, Data: b}
}

func someBytes(r *rand.Rand, n int) []byte {
	b := make([]byte, n)
	r.Read(b)
	return b
}

func someOf[T any](r *rand.Rand, list ...T) T { return list[r.Intn(len(list))] }

// someRecord picks a record that may be, of a tree; most say something of files.
func (x tree) someRecord(t *testing.T, r *rand.Rand, c int) api.Record {
	t.Helper()
	if id := x.pick(r, isFile); id != 0 && r.Intn(3) > 0 {
		d := api.Record{Kind: api.KindData, Object: id, Chunk: r.Intn(5), Data: someBytes(r, someOf(r, c, c, 1, c-1, 1+r.Intn(c)))}
		if r.Intn(8) == 0 {
			d.Flags = api.FlagCut
		}
		return d
	}
	id := x.pick(r, isAny)
	if id == 0 || r.Intn(4) == 0 {
		return x.newHeader(t, r)
	}
	n := x[id].node
	switch r.Intn(6) {
	case 0:
		n.Parent = 0
	case 1:
		n.Parent, n.Name = 1, "n"+strconv.Itoa(r.Intn(99))
		if other := x.pick(r, isLinked); other != id {
			n.Shadow = other
		}
	case 2, 3:
		if n.Type == api.TypeFile {
			n.Size = r.Intn(6 * c)
		}
	default:
		n.Mode, n.Stamp = r.Intn(4096), r.Uint64()
	}
	return headerOf(t, id, n)
}

func (x tree) newHeader(t *testing.T, r *rand.Rand) api.Record {
	t.Helper()
	id := someOf(r, 2, 3, 4, 5, 6, 7, api.MaxObject)
	for _, there := x[id]; there; _, there = x[id] {
		id = 2 + r.Intn(30)
	}
	n := api.Node{Type: someOf(r, 1, 1, 1, 2, 3), Parent: 1, Name: "o" + strconv.Itoa(id), Mode: r.Intn(4096)}
	if n.Type == api.TypeLink {
		n.Target = "x"
	}
	return headerOf(t, id, n)
}
