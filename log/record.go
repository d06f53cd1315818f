package log

import (
	"shale/api"
	"shale/node"
)

// mayBe tells whether a record may be written.
func (l *Log) mayBe(r api.Record) bool {
	switch r.Kind {
	case api.KindNode:
		return l.headerMayBe(r)
	case api.KindData:
		return l.chunkMayBe(r)
	}
	return false
}

// headerMayBe: a new object begins without bytes, as pages of an earlier one of its number may still count ahead of it.
func (l *Log) headerMayBe(r api.Record) bool {
	if r.Flags != 0 || r.Chunk != 0 || r.Object <= api.Root || r.Object > api.MaxObject {
		return false
	}
	n, e := node.Read(r.Data)
	if e != api.OK || n.Size > greatest(l.Geometry()) || n.Shadow == r.Object {
		return false
	}
	return n.Size == 0 || l.hasHeader(r.Object)
}

func (l *Log) hasHeader(id int) bool {
	_, there := l.table.Header(id)
	return there
}

func (l *Log) chunkMayBe(r api.Record) bool {
	return (r.Flags == 0 || r.Flags == api.FlagCut) &&
		r.Chunk >= 0 && r.Chunk <= api.MaxChunk &&
		len(r.Data) >= 1 && len(r.Data) <= l.capacity() &&
		l.isFile(r.Object)
}

// isFile tells whether an object is a file that has a header.
func (l *Log) isFile(id int) bool {
	n, e := l.table.Node(id)
	return e == api.OK && n.Type == api.TypeFile
}

// grows tells whether one page more is current behind a record that may be.
func (l *Log) grows(r api.Record) bool {
	if r.Kind == api.KindNode {
		return !l.hasHeader(r.Object)
	}
	_, there := l.table.Piece(r.Object, r.Chunk)
	return !there
}

// letsGo tells whether a record that may be makes room, at once or when its object is forgotten.
func (l *Log) letsGo(r api.Record) bool {
	if r.Kind == api.KindData {
		return r.Flags == api.FlagCut
	}
	n, _ := node.Read(r.Data)
	old, e := l.table.Node(r.Object)
	return n.Parent == 0 || e == api.OK && n.Size < old.Size
}
