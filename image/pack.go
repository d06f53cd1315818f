package image

import (
	"bytes"

	"shale/api"
	"shale/words"
)

const (
	magic   = "SHAL"
	version = 1
	ones    = 255 // a byte of which nothing was written
)

// How many bytes the numbers of a row have.
const (
	versionBytes = 1
	blocksBytes  = 2
	pagesBytes   = 2
	sectorsBytes = 1
	kindBytes    = 1 // of a piece
	countBytes   = 2 // of a piece: how many pages it tells, or bytes of data
	sumBytes     = 4
)

// maxRun is how many pages one piece tells at most.
const maxRun = 65535

// The kinds of pieces.
const (
	pieceBlank = iota // pages of ones alone
	pieceTold         // a page with its bytes
	pieceTwin         // pages that are as the one ahead
)

// Pack tells an image as bytes.
func Pack(m api.Image) ([]byte, api.Errno) {
	if e := Check(m); e != api.OK {
		return nil, e
	}
	w := &writer{laid: []byte(magic)}
	w.number(versionBytes, version)
	w.number(blocksBytes, m.G.Blocks)
	w.number(pagesBytes, m.G.Pages)
	w.number(sectorsBytes, m.G.Sectors)
	w.laid = append(w.laid, marksAsBits(m.Marks)...)
	var ahead []byte
	for _, page := range pages(m) {
		w.page(page, ahead, dataBytes(m.G))
		ahead = page
	}
	w.number(sumBytes, int(words.Sum(w.laid)))
	return w.laid, api.OK
}

func marksAsBits(marks []bool) []byte {
	laid := make([]byte, markBytes(len(marks)))
	for block, marked := range marks {
		if marked {
			words.Flip(laid, block)
		}
	}
	return laid
}

func markBytes(blocks int) int { return (blocks + 7) / 8 }

// writer lays a row; it knows the run with which the row ends, which the next page may make longer.
type writer struct {
	laid  []byte
	kind  int
	count int // 0: the row does not end with a run
}

func (w *writer) number(size, n int) {
	at := len(w.laid)
	w.laid = append(w.laid, make([]byte, size)...)
	words.Put(w.laid, at, size, uint64(n))
}

// page lays a page down, of which so many bytes are data.
func (w *writer) page(page, ahead []byte, data int) {
	switch {
	case isBlank(page):
		w.run(pieceBlank)
	case bytes.Equal(page, ahead):
		w.run(pieceTwin)
	default:
		w.told(page, data)
	}
}

func isBlank(page []byte) bool { return writtenBytes(page) == 0 }

// writtenBytes is the least number from which on all bytes are ones.
func writtenBytes(b []byte) int {
	n := len(b)
	for n > 0 && b[n-1] == ones {
		n--
	}
	return n
}

func (w *writer) run(kind int) {
	if w.kind != kind || w.count == 0 || w.count == maxRun {
		w.number(kindBytes, kind)
		w.number(countBytes, 0)
		w.kind, w.count = kind, 0
	}
	w.count++
	words.Put(w.laid, len(w.laid)-countBytes, countBytes, uint64(w.count))
}

func (w *writer) told(page []byte, data int) {
	n := writtenBytes(page[:data])
	w.number(kindBytes, pieceTold)
	w.number(countBytes, n)
	w.laid = append(w.laid, page[:n]...)
	w.laid = append(w.laid, page[data:]...)
	w.count = 0
}
