package image

import (
	"bytes"
	"math/rand"
	"slices"
	"testing"

	"shale/api"
	"shale/chip"
	"shale/words"
)

func shape(blocks, pages, sectors int) api.Geometry {
	return api.Geometry{Blocks: blocks, Pages: pages, Sectors: sectors}
}

func small() api.Geometry { return shape(8, 4, 1) }

func place(block, page int) api.Place { return api.Place{Block: block, Page: page} }

func rep(b byte, n int) []byte { return bytes.Repeat([]byte{b}, n) }

func sizes(g api.Geometry) (data, spare int) {
	spare, e := chip.Spare(g)
	if e != api.OK {
		panic(e)
	}
	return 256 * g.Sectors, spare
}

// ofPages is an image of these pages one behind the other, those that are left being blank.
func ofPages(g api.Geometry, list ...[]byte) api.Image {
	data, spare := sizes(g)
	m := api.Image{G: g, Cells: rep(255, g.Blocks*g.Pages*(data+spare)), Marks: make([]bool, g.Blocks)}
	copy(m.Cells, slices.Concat(list...))
	return m
}

// sheet is a page with these first bytes of data, and a spare of one byte over and over.
func sheet(g api.Geometry, spareByte byte, first ...byte) []byte {
	data, spare := sizes(g)
	return slices.Concat(first, rep(255, data-len(first)), rep(spareByte, spare))
}

func marked(m api.Image, list ...int) api.Image {
	m.Marks = slices.Clone(m.Marks)
	for _, n := range list {
		m.Marks[n] = true
	}
	return m
}

// sealed is a row with its sum behind it.
func sealed(parts ...[]byte) []byte {
	b := slices.Concat(parts...)
	s := words.Sum(b)
	return append(b, byte(s), byte(s>>8), byte(s>>16), byte(s>>24))
}

// front is what stands ahead of the pieces of a small image in which the block 3 is marked.
func front() []byte { return []byte{83, 72, 65, 76, 1, 8, 0, 4, 0, 1, 8} }

// row is such a one with these pieces.
func row(pieces ...byte) []byte { return sealed(front(), pieces) }

func alike(a, b api.Image) bool {
	return a.G == b.G && bytes.Equal(a.Cells, b.Cells) && slices.Equal(a.Marks, b.Marks)
}

func packed(t *testing.T, m api.Image) []byte {
	t.Helper()
	b, e := Pack(m)
	if e != api.OK {
		t.Fatalf("Pack: %d", e)
	}
	return b
}

// slowPieces lays pages from one on down as the chapter says it, asking of each page anew what it is.
func slowPieces(list [][]byte, first, data int) []byte {
	blank := func(n int) bool {
		return !slices.ContainsFunc(list[n], func(b byte) bool { return b != 255 })
	}
	twin := func(n int) bool { return !blank(n) && n > 0 && bytes.Equal(list[n], list[n-1]) }
	follow := func(from int, so func(int) bool) int {
		n := from
		for n < len(list) && n-from < 65535 && so(n) {
			n++
		}
		return n - from
	}
	var out []byte
	for n := first; n < len(list); {
		if blank(n) {
			k := follow(n, blank)
			out = append(out, 0, byte(k), byte(k>>8))
			n += k
		} else if twin(n) {
			k := follow(n, twin)
			out = append(out, 2, byte(k), byte(k>>8))
			n += k
		} else {
			m := data
			for m > 0 && list[n][m-1] == 255 {
				m--
			}
			out = slices.Concat(out, []byte{1, byte(m), byte(m >> 8)}, list[n][:m], list[n][data:])
			n++
		}
	}
	return out
}

func slowPack(m api.Image) []byte {
	data, spare := sizes(m.G)
	out := []byte{83, 72, 65, 76, 1, byte(m.G.Blocks), byte(m.G.Blocks >> 8), byte(m.G.Pages), byte(m.G.Pages >> 8), byte(m.G.Sectors)}
	for n := 0; n < m.G.Blocks; n += 8 {
		b := byte(0)
		for k := range min(8, m.G.Blocks-n) {
			if m.Marks[n+k] {
				b |= 1 << k
			}
		}
		out = append(out, b)
	}
	return sealed(out, slowPieces(slices.Collect(slices.Chunk(m.Cells, data+spare)), 0, data))
}

// slowRead reads as the chapter says it; behind each piece it lays the pages of this and the one ahead down anew, to see whether the pieces are those.
func slowRead(b []byte) (api.Image, api.Errno) {
	if len(b) < 4 || string(b[:4]) != "SHAL" {
		return api.Image{}, api.ErrMagic
	}
	if len(b) < 5 {
		return api.Image{}, api.ErrShort
	}
	if b[4] != 1 {
		return api.Image{}, api.ErrVersion
	}
	if len(b) < 10 {
		return api.Image{}, api.ErrShort
	}
	g := shape(int(b[5])+int(b[6])<<8, int(b[7])+int(b[8])<<8, int(b[9]))
	spare, e := chip.Spare(g)
	if e != api.OK {
		return api.Image{}, api.ErrShape
	}
	end := 10 + (g.Blocks+7)/8
	if len(b) < end {
		return api.Image{}, api.ErrShort
	}
	m := api.Image{G: g, Marks: make([]bool, g.Blocks)}
	for bit := range 8 * (end - 10) {
		if b[10+bit/8]&(1<<(bit%8)) != 0 {
			if bit >= g.Blocks {
				return api.Image{}, api.ErrImage
			}
			m.Marks[bit] = true
		}
	}
	list, at, e := slowReadPieces(b, end, g, 256*g.Sectors, spare)
	if e != api.OK {
		return api.Image{}, e
	}
	if len(b) < at+4 {
		return api.Image{}, api.ErrShort
	}
	if !bytes.Equal(sealed(b[:at]), b[:at+4]) {
		return api.Image{}, api.ErrSum
	}
	if len(b) > at+4 {
		return api.Image{}, api.ErrTail
	}
	m.Cells = slices.Concat(list...)
	return m, api.OK
}

func slowReadPieces(b []byte, first int, g api.Geometry, data, spare int) ([][]byte, int, api.Errno) {
	var list [][]byte
	at := first
	told, toldAt := 0, first // where the piece ahead begins
	for len(list) < g.Blocks*g.Pages {
		from, fromAt := len(list), at
		if len(b) < at+1 {
			return nil, 0, api.ErrShort
		}
		kind := b[at]
		if kind > 2 {
			return nil, 0, api.ErrImage
		}
		if len(b) < at+3 {
			return nil, 0, api.ErrShort
		}
		n := int(b[at+1]) + int(b[at+2])<<8
		at += 3
		if kind == 1 && n > data || kind != 1 && (n == 0 || n > g.Blocks*g.Pages-len(list)) {
			return nil, 0, api.ErrImage
		}
		switch kind {
		case 0:
			list = append(list, slices.Repeat([][]byte{rep(255, data+spare)}, n)...)
		case 1:
			if len(b) < at+n+spare {
				return nil, 0, api.ErrShort
			}
			list = append(list, slices.Concat(b[at:at+n], rep(255, data-n), b[at+n:at+n+spare]))
			at += n + spare
		case 2:
			if len(list) == 0 {
				return nil, 0, api.ErrImage
			}
			for range n {
				list = append(list, list[len(list)-1])
			}
		}
		if !bytes.Equal(slowPieces(list, told, data), b[toldAt:at]) {
			return nil, 0, api.ErrImage
		}
		told, toldAt = from, fromAt
	}
	return list, at, api.OK
}

// someImage has few contents, so that pages are alike often.
func someImage(r *rand.Rand) api.Image {
	g := shape(8+r.Intn(12), 4+r.Intn(4), 1+r.Intn(3))
	data, spare := sizes(g)
	kinds := [][]byte{rep(255, data+spare)}
	for range 1 + r.Intn(4) {
		kinds = append(kinds, somePage(r, data, spare))
	}
	var list [][]byte
	for range g.Blocks * g.Pages {
		if len(list) > 0 && r.Intn(2) == 0 {
			list = append(list, list[len(list)-1])
		} else {
			list = append(list, kinds[r.Intn(len(kinds))])
		}
	}
	m := ofPages(g, list...)
	for n := range m.Marks {
		m.Marks[n] = r.Intn(4) == 0
	}
	return m
}

func somePage(r *rand.Rand, data, spare int) []byte {
	b := rep(255, data+spare)
	if r.Intn(3) > 0 {
		r.Read(b[:r.Intn(data+1)])
	}
	if r.Intn(3) > 0 {
		r.Read(b[data:])
	}
	if r.Intn(4) == 0 {
		b[[]int{0, data - 1, data, data + spare - 1}[r.Intn(4)]] = byte(r.Intn(256))
	}
	return b
}
