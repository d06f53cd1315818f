package volume

import (
	"iter"

	"shale/api"
)

// stretch is what of a row of bytes lies in one chunk.
type stretch struct {
	chunk, from, to int
}

// stretches tells, chunk by chunk, where n bytes from a place on lie; no chunk, if n is 0.
func (v *Volume) stretches(at, n int) iter.Seq[stretch] {
	return func(yield func(stretch) bool) {
		for done := 0; done < n; {
			chunk, from := (at+done)/v.capacity(), (at+done)%v.capacity()
			to := min(v.capacity(), from+n-done)
			if !yield(stretch{chunk, from, to}) {
				return
			}
			done += to - from
		}
	}
}

// capacity tells the bytes of a page's data.
func (v *Volume) capacity() int { return api.Sector * v.Geometry().Sectors }

// greatest tells how many bytes a file may have.
func (v *Volume) greatest() int { return v.capacity() * (api.MaxChunk + 1) }

// file tells a file's header.
func (v *Volume) file(id int) (api.Node, api.Errno) {
	n, e := v.Node(id)
	if e == api.OK && n.Type != api.TypeFile {
		return api.Node{}, api.ErrType
	}
	return n, e
}

// Read tells bytes of a file.
func (v *Volume) Read(id, at, n int) ([]byte, api.Errno) {
	f, e := v.file(id)
	switch {
	case e != api.OK:
		return nil, e
	case at < 0 || n < 0:
		return nil, api.ErrRange
	case at >= f.Size:
		return nil, api.OK
	}
	n = min(n, f.Size-at)
	b := make([]byte, 0, n)
	for s := range v.stretches(at, n) {
		data, e := v.Chunk(id, s.chunk)
		if e != api.OK {
			return nil, e
		}
		b = append(b, data[s.from:s.to]...)
	}
	return b, api.OK
}

// Write writes bytes into a file, and tells how many were written.
func (v *Volume) Write(id, at int, b []byte) (int, api.Errno) {
	_, e := v.file(id)
	switch {
	case e != api.OK:
		return 0, e
	case at < 0:
		return 0, api.ErrRange
	case at > v.greatest() || len(b) > v.greatest()-at:
		return 0, api.ErrBig
	}
	done := 0
	for s := range v.stretches(at, len(b)) {
		if e := v.lay(id, s, b[done:]); e != api.OK {
			return done, e
		}
		done += s.to - s.from
	}
	return done, api.OK
}

// lay writes a chunk anew, with bytes laid over it; what lies behind the file's end is not written, so that it is not there when the file grows.
func (v *Volume) lay(id int, s stretch, b []byte) api.Errno {
	data, e := v.Chunk(id, s.chunk)
	if e != api.OK {
		return e
	}
	n, e := v.Node(id)
	if e != api.OK {
		return e
	}
	copy(data[s.from:s.to], b)
	end := max(s.to, n.Size-s.chunk*v.capacity())
	data = data[:min(end, v.capacity())]
	return v.Step(api.Record{Kind: api.KindData, Object: id, Chunk: s.chunk, Data: data})
}

// Cut makes a file shorter or longer.
func (v *Volume) Cut(id, size int) api.Errno {
	n, e := v.file(id)
	switch {
	case e != api.OK:
		return e
	case size < 0:
		return api.ErrRange
	case size > v.greatest():
		return api.ErrBig
	case size == n.Size:
		return api.OK
	case size < n.Size && v.splits(id, size):
		return v.cutChunk(id, size)
	}
	n.Size = size
	return v.stepHeader(id, n)
}

// splits tells whether a file that ends at a size ends in the midst of a chunk that is there.
func (v *Volume) splits(id, size int) bool {
	_, there := v.Table().Piece(id, size/v.capacity())
	return there && size%v.capacity() != 0
}

// cutChunk ends a file in the midst of a chunk.
func (v *Volume) cutChunk(id, size int) api.Errno {
	chunk := size / v.capacity()
	data, e := v.Chunk(id, chunk)
	if e != api.OK {
		return e
	}
	data = data[:size%v.capacity()]
	return v.Step(api.Record{Kind: api.KindData, Flags: api.FlagCut, Object: id, Chunk: chunk, Data: data})
}
