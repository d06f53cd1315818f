package log

import (
	"shale/api"
	"shale/blocks"
	"shale/chip"
	"shale/node"
	"shale/object"
)

// Start goes on with what a mount has found out.
func Start(c *chip.Chip, s api.State) (*Log, api.Errno) {
	if c.Dark() {
		return nil, api.ErrOff
	}
	book, e := blocks.New(c.Geometry(), s.Blocks, s.Cursor, s.Last)
	if e != api.OK {
		return nil, e
	}
	if !serialsMayBe(s) || !blocksMayBe(s) {
		return nil, api.ErrRecord
	}
	table, e := tableOf(c.Geometry(), s)
	if e != api.OK {
		return nil, e
	}
	return &Log{chip: c, table: table, blocks: book, next: s.Next, floor: s.Floor, last: s.Last}, api.OK
}

func serialsMayBe(s api.State) bool {
	return s.Next >= 2 && s.Next <= api.MaxSerial+1 && s.Floor >= 1 && s.Floor < s.Next
}

// blocksMayBe: a mount finds none in those states that only a life knows.
func blocksMayBe(s api.State) bool {
	for _, x := range s.Blocks {
		switch x.State {
		case api.BlockFree, api.BlockUsed, api.BlockHeld, api.BlockBad:
			if x.Head >= s.Next {
				return false
			}
		default:
			return false
		}
	}
	return true
}

// loading makes a table of a state.
type loading struct {
	api.State
	g     api.Geometry
	table *object.Table
	live  []int // of each block: how many places there are in it so far
}

// tableOf tells the table of a state's objects; ErrRecord, if they may not be, or lie elsewhere than its blocks say.
func tableOf(g api.Geometry, s api.State) (*object.Table, api.Errno) {
	table, e := object.New(g)
	if e != api.OK {
		return nil, e
	}
	l := loading{State: s, g: g, table: table, live: make([]int, len(s.Blocks))}
	ahead := api.Root
	for _, o := range s.Objects {
		if o.Id <= ahead || !l.takeObject(o) {
			return nil, api.ErrRecord
		}
		ahead = o.Id
	}
	for n, x := range s.Blocks {
		if x.Live != l.live[n] {
			return nil, api.ErrRecord
		}
	}
	return table, api.OK
}

// takeObject takes an object in; false: it may not be.
func (l *loading) takeObject(o api.Object) bool {
	if !l.headerMayBe(o) {
		return false
	}
	data, e := node.Pack(o.Node)
	if e != api.OK || !l.take(api.Tags{Kind: api.KindNode, Object: o.Id}, data, o.Place) {
		return false
	}
	ahead := -1
	for _, c := range o.Chunks {
		if c.Chunk <= ahead || !l.takeChunk(o, c) {
			return false
		}
		ahead = c.Chunk
	}
	return true
}

// headerMayBe: what is loose is forgotten by a mount; what may be a header besides node.Pack says.
func (l *loading) headerMayBe(o api.Object) bool {
	return o.Head && o.Id <= api.MaxObject && o.Node.Parent != 0 && o.Node.Shadow == 0 &&
		o.Node.Size <= greatest(l.g)
}

// greatest tells the greatest size of a file.
func greatest(g api.Geometry) int { return capacityOf(g) * (api.MaxChunk + 1) }

// takeChunk takes a chunk of an object in; false: it may not be. (Bounds come ahead of the product, which could wrap round.)
func (l *loading) takeChunk(o api.Object, c api.Chunk) bool {
	count, all := c.Piece.Count, capacityOf(l.g)
	if o.Node.Type != api.TypeFile || c.Chunk > api.MaxChunk || count < 1 || count > all || c.Chunk*all+count > o.Node.Size {
		return false
	}
	t := api.Tags{Kind: api.KindData, Object: o.Id, Chunk: c.Chunk}
	return l.take(t, make([]byte, count), c.Piece.Place)
}

// take takes a record in at a place; false: nothing may lie there. (Of a place that stands twice the table says so.)
func (l *loading) take(t api.Tags, data []byte, at api.Place) bool {
	if at.Block < 0 || at.Block >= len(l.Blocks) || l.Blocks[at.Block].State != api.BlockUsed || at.Page < 1 {
		return false
	}
	t.Serial, t.Begin, t.Count = 1, 1, len(data) // no serial is known any more, and none plays a part
	if _, e := l.table.Apply(t, data, at); e != api.OK {
		return false
	}
	l.live[at.Block]++
	return true
}
