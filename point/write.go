package point

import (
	"shale/api"
	"shale/node"
	"shale/words"
)

// How many bytes the numbers of a state have.
const (
	serialBytes = 8 // Floor, Next
	indexBytes  = 4 // Cursor, Last, of which each is told as one more
	manyBytes   = 4 // how many blocks, objects, chunks there are
	stateBytes  = 1
	headBytes   = 6
	flagBytes   = 1
	liveBytes   = 2
	idBytes     = 4
	nodeBytes   = 1 // how many bytes a header has
	placeBytes  = 2 // a block's number, a page's
	chunkBytes  = 4
	countBytes  = 2
)

// Pack tells a state as bytes.
func Pack(s api.State) ([]byte, api.Errno) {
	if !mayBePacked(s) {
		return nil, api.ErrSave
	}
	w := &writer{}
	w.number(serialBytes, s.Floor).number(serialBytes, s.Next).whole(indexBytes, s.Cursor+1).whole(indexBytes, s.Last+1)
	w.whole(manyBytes, len(s.Blocks))
	for _, x := range s.Blocks {
		w.whole(stateBytes, x.State).number(headBytes, x.Head).flag(x.Real).whole(liveBytes, x.Live)
	}
	w.whole(manyBytes, len(s.Objects))
	for _, o := range s.Objects {
		w.whole(idBytes, o.Id).header(o).chunks(o.Chunks)
	}
	return w.laid, api.OK
}

// writer lays numbers one behind the other; each of its calls hands on the writer itself, so that a row of them reads as the row of what they lay.
type writer struct{ laid []byte }

func (w *writer) number(size int, v uint64) *writer {
	at := len(w.laid)
	w.laid = append(w.laid, make([]byte, size)...)
	words.Put(w.laid, at, size, v)
	return w
}

func (w *writer) whole(size, n int) *writer { return w.number(size, uint64(n)) }

func (w *writer) flag(so bool) *writer {
	if so {
		return w.number(flagBytes, 1)
	}
	return w.number(flagBytes, 0)
}

func (w *writer) place(p api.Place) *writer {
	return w.whole(placeBytes, p.Block).whole(placeBytes, p.Page)
}

func (w *writer) row(b []byte) *writer {
	w.laid = append(w.laid, b...)
	return w
}

func (w *writer) header(o api.Object) *writer {
	if !o.Head {
		return w.flag(false)
	}
	b, _ := node.Pack(o.Node) // which was looked at ahead
	return w.flag(true).whole(nodeBytes, len(b)).row(b).place(o.Place)
}

func (w *writer) chunks(list []api.Chunk) *writer {
	w.whole(manyBytes, len(list))
	for _, c := range list {
		w.whole(chunkBytes, c.Chunk).place(c.Piece.Place).whole(countBytes, c.Piece.Count)
	}
	return w
}
