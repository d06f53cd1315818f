package image

import (
	"bytes"

	"shale/api"
	"shale/chip"
	"shale/words"
)

// Read tells the image that bytes are.
func Read(b []byte) (api.Image, api.Errno) {
	r := &reader{left: b}
	m, e := r.front()
	if e != api.OK {
		return api.Image{}, e
	}
	list, e := r.pieces(m.G)
	if e != api.OK {
		return api.Image{}, e
	}
	if e := r.end(b); e != api.OK {
		return api.Image{}, e
	}
	m.Cells = laidOut(list)
	return m, api.OK
}

// reader takes a row apart, from the left.
type reader struct{ left []byte }

func (r *reader) take(n int) ([]byte, api.Errno) {
	if n > len(r.left) {
		return nil, api.ErrShort
	}
	b := r.left[:n]
	r.left = r.left[n:]
	return b, api.OK
}

func (r *reader) number(size int) (int, api.Errno) {
	b, e := r.take(size)
	if e != api.OK {
		return 0, e
	}
	v, e := words.Get(b, 0, size)
	return int(v), e
}

// front reads all that stands ahead of the pieces.
func (r *reader) front() (api.Image, api.Errno) {
	if !bytes.HasPrefix(r.left, []byte(magic)) {
		return api.Image{}, api.ErrMagic
	}
	r.take(len(magic))
	v, e := r.number(versionBytes)
	switch {
	case e != api.OK:
		return api.Image{}, e
	case v != version:
		return api.Image{}, api.ErrVersion
	}
	g, e := r.geometry()
	if e != api.OK {
		return api.Image{}, e
	}
	marks, e := r.marks(g.Blocks)
	if e != api.OK {
		return api.Image{}, e
	}
	return api.Image{G: g, Marks: marks}, api.OK
}

func (r *reader) geometry() (api.Geometry, api.Errno) {
	b, e := r.take(blocksBytes + pagesBytes + sectorsBytes)
	if e != api.OK {
		return api.Geometry{}, e
	}
	inner := &reader{left: b}
	var g api.Geometry
	g.Blocks, _ = inner.number(blocksBytes)
	g.Pages, _ = inner.number(pagesBytes)
	g.Sectors, _ = inner.number(sectorsBytes)
	if _, e := chip.Spare(g); e != api.OK {
		return api.Geometry{}, e
	}
	return g, api.OK
}

func (r *reader) marks(blocks int) ([]bool, api.Errno) {
	b, e := r.take(markBytes(blocks))
	if e != api.OK {
		return nil, e
	}
	marks := make([]bool, blocks)
	for n := range marks {
		marks[n] = b[n/8]>>(n%8)&1 == 1
	}
	if !bytes.Equal(marksAsBits(marks), b) {
		return nil, api.ErrImage // a mark of a block that is not there
	}
	return marks, api.OK
}

// piece tells so many pages of one content.
type piece struct {
	kind  int
	count int // 0: no piece
	page  []byte
}

// pieces reads those that tell all pages. (Cells are laid out when the whole row is known to be right: a short row may tell of many.)
func (r *reader) pieces(g api.Geometry) ([]piece, api.Errno) {
	var list []piece
	var ahead piece
	blank := bytes.Repeat([]byte{ones}, pageBytes(g))
pieces:
	for left := pagesIn(g); left > 0; left -= ahead.count {
		next, e := r.piece(g, left)
		if e == api.OK && !next.standsBehind(ahead) {
			e = api.ErrImage
		}
		if e != api.OK {
			return nil, e
		}
		switch next.kind {
		case pieceBlank:
			ahead = piece{kind: pieceBlank, count: next.count, page: blank}
			list = append(list, ahead)
			continue pieces
		case pieceTwin:
			ahead = piece{kind: pieceTwin, count: next.count, page: ahead.page}
			list = append(list, ahead)
			continue pieces
		}
		ahead = next
		list = append(list, ahead)
	}
	return list, api.OK
}

// piece reads one that tells no more pages than are left.
func (r *reader) piece(g api.Geometry, left int) (piece, api.Errno) {
	kind, e := r.number(kindBytes)
	switch {
	case e != api.OK:
		return piece{}, e
	case kind > pieceTwin:
		return piece{}, api.ErrImage
	}
	n, e := r.number(countBytes)
	switch {
	case e != api.OK:
		return piece{}, e
	case kind == pieceTold:
		return r.told(g, n)
	case n == 0 || n > left:
		return piece{}, api.ErrImage
	}
	return piece{kind: kind, count: n}, api.OK
}

// told reads a page of whose data so many bytes stand there.
func (r *reader) told(g api.Geometry, n int) (piece, api.Errno) {
	data := dataBytes(g)
	if n > data {
		return piece{}, api.ErrImage
	}
	b, e := r.take(n + pageBytes(g) - data)
	if e != api.OK {
		return piece{}, e
	}
	if writtenBytes(b[:n]) < n {
		return piece{}, api.ErrImage
	}
	page := words.Join(b[:n], bytes.Repeat([]byte{ones}, data-n), b[n:])
	return piece{kind: pieceTold, count: 1, page: page}, api.OK
}

// standsBehind tells whether Pack would lay this piece down behind the one ahead. (Where there is none ahead, that is as an empty run of blank pages.)
func (p piece) standsBehind(ahead piece) bool {
	switch {
	case p.kind == pieceTold:
		return !isBlank(p.page) && !bytes.Equal(p.page, ahead.page)
	case p.kind == pieceTwin && ahead.kind == pieceBlank:
		return false
	}
	return p.kind != ahead.kind || ahead.count == 0 || ahead.count == maxRun
}

// end reads what stands behind the pieces of a row.
func (r *reader) end(row []byte) api.Errno {
	ahead := row[:len(row)-len(r.left)]
	sum, e := r.number(sumBytes)
	switch {
	case e != api.OK:
		return e
	case sum != int(words.Sum(ahead)):
		return api.ErrSum
	case len(r.left) > 0:
		return api.ErrTail
	}
	return api.OK
}

func laidOut(list []piece) []byte {
	var parts [][]byte
	for _, p := range list {
		for range p.count {
			parts = append(parts, p.page)
		}
	}
	return words.Join(parts...)
}
