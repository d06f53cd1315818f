package point

import (
	"shale/api"
	"shale/node"
	"shale/words"
)

// wrong is what a reader gives up with.
type wrong struct{}

// Read tells the state that bytes are.
func Read(b []byte) (s api.State, e api.Errno) {
	defer func() {
		switch why := recover().(type) {
		case nil:
		case wrong:
			s, e = api.State{}, api.ErrSave
		default:
			panic(why)
		}
	}()
	r := &reader{left: b}
	s = r.state()
	if len(r.left) > 0 || !mayBePacked(s) {
		return api.State{}, api.ErrSave
	}
	return s, api.OK
}

// reader takes bytes from a row, one number behind the other; where they are not a state's, it gives up by panic.
type reader struct{ left []byte }

func (r *reader) row(size int) []byte {
	if size > len(r.left) {
		panic(wrong{})
	}
	b := r.left[:size]
	r.left = r.left[size:]
	return b
}

func (r *reader) number(size int) uint64 {
	v, _ := words.Get(r.row(size), 0, size)
	return v
}

func (r *reader) whole(size int) int { return int(r.number(size)) }

func (r *reader) flag() bool {
	v := r.number(flagBytes)
	if v > 1 {
		panic(wrong{})
	}
	return v == 1
}

func (r *reader) place() api.Place {
	block := r.whole(placeBytes)
	return api.Place{Block: block, Page: r.whole(placeBytes)}
}

func (r *reader) state() api.State {
	var s api.State
	s.Floor, s.Next = r.number(serialBytes), r.number(serialBytes)
	s.Cursor, s.Last = r.whole(indexBytes)-1, r.whole(indexBytes)-1
	s.Blocks = many(r, r.block)
	s.Objects = many(r, r.object)
	return s
}

// many takes as many things as a number ahead of them says. (How many that may be at all, the row's own length says.)
func many[T any](r *reader, take func() T) []T {
	var list []T
	for range r.number(manyBytes) {
		list = append(list, take())
	}
	return list
}

func (r *reader) block() api.Block {
	var x api.Block
	x.State, x.Head = r.whole(stateBytes), r.number(headBytes)
	x.Real, x.Live = r.flag(), r.whole(liveBytes)
	return x
}

func (r *reader) object() api.Object {
	o := api.Object{Id: r.whole(idBytes)}
	if o.Head = r.flag(); o.Head {
		n, e := node.Read(r.row(r.whole(nodeBytes)))
		if e != api.OK {
			panic(wrong{})
		}
		o.Node = n
		o.Place = r.place()
	}
	o.Chunks = many(r, r.chunk)
	return o
}

func (r *reader) chunk() api.Chunk {
	c := api.Chunk{Chunk: r.whole(chunkBytes)}
	c.Piece.Place = r.place()
	c.Piece.Count = r.whole(countBytes)
	return c
}
