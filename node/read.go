package node

import (
	"shale/api"
	"shale/words"
)

// Read tells the header that bytes are.
func Read(b []byte) (api.Node, api.Errno) {
	n, just := lift(b)
	if !just {
		return api.Node{}, api.ErrNode
	}
	if e := Check(n); e != api.OK {
		return api.Node{}, e
	}
	return n, api.OK
}

// lift tells the header whose bytes these are, whether it may be or not; false: they are too few for one, or too many.
func lift(b []byte) (api.Node, bool) {
	give := giver(b)
	number := func(size int) uint64 {
		piece, _ := give(size)
		v, _ := words.Get(piece, 0, size) // 0 of a row that has run short: what is left says so at the end
		return v
	}
	text := func() string {
		piece, _ := give(int(number(countBytes)))
		return string(piece)
	}
	var n api.Node
	n.Type = int(number(typeBytes))
	n.Parent = int(number(parentBytes))
	n.Size = int(number(sizeBytes))
	n.Mode = int(number(modeBytes))
	n.Stamp = number(stampBytes)
	n.Shadow = int(number(shadowBytes))
	n.Name = text()
	n.Target = text()
	_, left := give(0)
	return n, left == 0
}

// giver is asked for a row's bytes, so many at a time, and tells with them how many are left. When a row has run short it gives none, and less than 0 is left for ever.
func giver(b []byte) func(size int) ([]byte, int) {
	left := len(b)
	return func(size int) ([]byte, int) {
		at := len(b) - left
		left -= size
		if left < 0 {
			return nil, left
		}
		return b[at : at+size], left
	}
}
