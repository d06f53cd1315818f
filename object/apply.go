package object

import (
	"cmp"
	"slices"

	"shale/api"
	"shale/node"
	"shale/tags"
	"shale/tnode"
)

// Apply takes in the record of a page, and tells which places are not current any more.
func (t *Table) Apply(g api.Tags, data []byte, at api.Place) ([]api.Place, api.Errno) {
	if !t.has(at) {
		return nil, api.ErrPlace
	}
	g.Zeros = 0 // what a page's bits are plays no part in what it says
	if tags.Check(t.geometry, g) != api.OK {
		return nil, api.ErrField
	}
	if len(data) < g.Count {
		return nil, api.ErrRecord
	}
	if g.Kind != api.KindNode && g.Kind != api.KindData {
		return nil, api.OK
	}
	if _, taken := t.current[at]; taken {
		return nil, api.ErrRecord
	}
	if g.Kind == api.KindNode {
		return t.applyNode(g.Object, data[:g.Count], at)
	}
	return t.applyData(g, at)
}

func (t *Table) has(p api.Place) bool {
	return p.Block >= 0 && p.Block < t.geometry.Blocks && p.Page >= 0 && p.Page < t.geometry.Pages
}

// capacity tells the bytes of a page's data.
func (t *Table) capacity() int { return api.Sector * t.geometry.Sectors }

func (t *Table) applyNode(id int, data []byte, at api.Place) ([]api.Place, api.Errno) {
	n, e := node.Read(data)
	if e != api.OK || n.Shadow == id || n.Size > t.capacity()*(api.MaxChunk+1) {
		return nil, api.ErrRecord
	}
	o := t.made(id)
	gone := append(o.headPlaces(), o.cutBytes(n.Size, t.capacity())...)
	t.unlink(n.Shadow)
	n.Shadow = 0
	o.head, o.node, o.place = true, n, at
	t.current[at] = use{id, header}
	return t.leave(gone), api.OK
}

func (t *Table) applyData(g api.Tags, at api.Place) ([]api.Place, api.Errno) {
	if o, there := t.headed(g.Object); there && o.node.Type != api.TypeFile {
		return nil, api.ErrRecord
	}
	o := t.made(g.Object)
	gone := o.chunkPlaces(g.Chunk)
	o.chunks.Put(g.Chunk, api.Piece{Place: at, Count: g.Count})
	end := g.Chunk*t.capacity() + g.Count
	if g.Flags&api.FlagCut != 0 {
		gone = append(gone, o.cutChunks(g.Chunk+1)...)
		o.resize(end)
	} else {
		o.resize(max(end, o.node.Size))
	}
	t.current[at] = use{g.Object, g.Chunk}
	return t.leave(gone), api.OK
}

// made tells an object, which is made if it is not there.
func (t *Table) made(id int) *object {
	o, there := t.objects.Get(id)
	if !there {
		o = &object{chunks: tnode.New[api.Piece]()}
		t.objects.Put(id, o)
	}
	return o
}

// unlink takes the object, in whose place another one has come, out of its directory.
func (t *Table) unlink(id int) {
	if o, there := t.headed(id); there {
		o.node.Parent = 0
	}
}

// resize: only a header knows of a size.
func (o *object) resize(size int) {
	if o.head {
		o.node.Size = size
	}
}

// headPlaces tells the place of a header, if there is one.
func (o *object) headPlaces() []api.Place {
	if !o.head {
		return nil
	}
	return []api.Place{o.place}
}

// chunkPlaces tells the place of a chunk, if it is there.
func (o *object) chunkPlaces(chunk int) []api.Place {
	piece, there := o.chunks.Get(chunk)
	if !there {
		return nil
	}
	return []api.Place{piece.Place}
}

// cutBytes takes away what lies behind a size, so that nothing of it is seen again when the size grows; it tells the places of the chunks that went.
func (o *object) cutBytes(size, capacity int) []api.Place {
	last, count := size/capacity, size%capacity
	if count == 0 {
		return o.cutChunks(last)
	}
	if piece, there := o.chunks.Get(last); there {
		o.chunks.Put(last, api.Piece{Place: piece.Place, Count: min(piece.Count, count)})
	}
	return o.cutChunks(last + 1)
}

// cutChunks takes away the chunks from a number on, and tells their places.
func (o *object) cutChunks(from int) []api.Place {
	var places []api.Place
	for chunk, piece := range o.chunks.All() {
		if chunk >= from {
			places = append(places, piece.Place)
		}
	}
	o.chunks.Cut(from)
	return places
}

// Forget takes an object away, and tells the places that were current.
func (t *Table) Forget(id int) ([]api.Place, api.Errno) {
	o, there := t.objects.Get(id)
	if !there {
		return nil, api.ErrObject
	}
	t.objects.Drop(id)
	return t.leave(append(o.headPlaces(), o.cutChunks(0)...)), api.OK
}

// leave: places that are current no more are told by block, then page.
func (t *Table) leave(places []api.Place) []api.Place {
	for _, p := range places {
		delete(t.current, p)
	}
	slices.SortFunc(places, byPlace)
	return places
}

func byPlace(a, b api.Place) int {
	return cmp.Or(cmp.Compare(a.Block, b.Block), cmp.Compare(a.Page, b.Page))
}
