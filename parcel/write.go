package parcel

import (
	"shale/api"
	"shale/words"
)

// writer lays a row.
type writer struct{ laid []byte }

func (w *writer) number(size int, v uint64) {
	at := len(w.laid)
	w.laid = append(w.laid, make([]byte, size)...)
	words.Put(w.laid, at, size, v)
}

func (w *writer) whole(size, n int) { w.number(size, uint64(n)) }

func (w *writer) modeAndStamp(leaf api.Leaf) {
	w.whole(modeBytes, leaf.Mode)
	w.number(stampBytes, leaf.Stamp)
}

// piece lays a leaf of these names.
func (w *writer) piece(leaf api.Leaf, names []string) {
	depth := len(names) - 1
	w.whole(depthBytes, depth)
	w.whole(typeBytes, leaf.Type)
	w.modeAndStamp(leaf)
	w.text(nameBytes, names[depth])
	switch leaf.Type {
	case api.TypeFile:
		w.data(leaf.Data)
	case api.TypeLink:
		w.text(targetBytes, leaf.Target)
	}
}

func (w *writer) text(size int, text string) {
	w.whole(size, len(text))
	w.laid = append(w.laid, text...)
}

func (w *writer) data(data []byte) {
	w.whole(dataBytes, len(data))
	for s := range stretches(data) {
		w.whole(kindBytes, s.kind())
		w.whole(dataBytes, s.size)
		w.laid = append(w.laid, s.bytes...)
	}
}

// sealed ends the row with its sum.
func (w *writer) sealed() []byte {
	w.number(depthBytes, pastAll)
	w.number(sumBytes, uint64(words.Sum(w.laid)))
	return w.laid
}
