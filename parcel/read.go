package parcel

import (
	"bytes"
	"slices"

	"shale/api"
	"shale/path"
	"shale/words"
)

// piece is a leaf as a row tells it: holes of its data take no room.
type piece struct {
	spot
	leaf   api.Leaf // without Data
	size   int      // how many bytes Data has
	filled []stretch
}

// Read tells the tree that bytes are.
func Read(b []byte) ([]api.Leaf, api.Errno) {
	list, e := opened(b)
	if e != api.OK {
		return nil, e
	}
	tree := make([]api.Leaf, 0, len(list))
	for _, p := range list {
		tree = append(tree, p.whole())
	}
	return tree, api.OK
}

// whole is the leaf with its data.
func (p piece) whole() api.Leaf {
	leaf := p.leaf
	if p.size > 0 {
		leaf.Data = make([]byte, p.size)
	}
	for _, s := range p.filled {
		copy(leaf.Data[s.at:], s.bytes)
	}
	return leaf
}

// fault is what a reader gives up with.
type fault struct{ e api.Errno }

// opened tells a row's pieces, the first leaf ahead of them. (Windows of the row are in them. No data is laid out yet: a short row that is refused in the end may tell of very much.)
func opened(b []byte) (list []piece, e api.Errno) {
	defer func() {
		switch why := recover().(type) {
		case nil:
		case fault:
			list, e = nil, why.e
		default:
			panic(why)
		}
	}()
	r := &reader{left: b}
	list = r.pieces()
	r.end(b)
	return list, api.OK
}

// reader takes a row apart from the left; it gives up by panic.
type reader struct{ left []byte }

// row takes the next so many bytes, all of which must be there.
func (r *reader) row(size int) []byte {
	if size > len(r.left) {
		panic(fault{api.ErrParcel})
	}
	b := r.left[:size]
	r.left = r.left[size:]
	return b
}

func (r *reader) number(size int) uint64 {
	v, _ := words.Get(r.row(size), 0, size)
	return v
}

// whole takes a number that is from least to most.
func (r *reader) whole(size, least, most int) int {
	n := int(r.number(size))
	must(n >= least && n <= most)
	return n
}

// must gives up, if a part may not be.
func must(be bool) {
	if !be {
		panic(fault{api.ErrPiece})
	}
}

func (r *reader) pieces() []piece {
	if !bytes.HasPrefix(r.left, append([]byte(magic), version)) {
		panic(fault{api.ErrParcel})
	}
	r.row(len(magic) + versionBytes)
	ahead := piece{spot: spot{isDir: true}, leaf: api.Leaf{Path: root, Type: api.TypeDir}}
	r.modeAndStamp(&ahead.leaf)
	list := []piece{ahead}
	for {
		depth := int(r.number(depthBytes))
		if depth == pastAll {
			return list
		}
		must(depth < api.MaxDepth && depth <= ahead.deepest())
		ahead = r.piece(ahead.spot, depth)
		list = append(list, ahead)
	}
}

func (r *reader) modeAndStamp(leaf *api.Leaf) {
	leaf.Mode = r.whole(modeBytes, 0, api.MaxMode)
	leaf.Stamp = r.number(stampBytes)
}

// piece takes what stands behind the first number of a piece: its directory has the first so many names of the leaf ahead.
func (r *reader) piece(ahead spot, depth int) piece {
	var p piece
	p.leaf.Type = r.whole(typeBytes, api.TypeFile, api.TypeLink)
	r.modeAndStamp(&p.leaf)
	p.isDir = p.leaf.Type == api.TypeDir
	p.names, p.leaf.Path = r.names(ahead, depth)
	switch p.leaf.Type {
	case api.TypeFile:
		p.size, p.filled = r.data()
	case api.TypeLink:
		p.leaf.Target = string(r.row(r.whole(targetBytes, 1, api.MaxTarget)))
		must(noneIsZero(p.leaf.Target))
	}
	return p
}

// names takes a leaf's last name, and tells all of them and their path.
func (r *reader) names(ahead spot, depth int) ([]string, string) {
	name := string(r.row(r.whole(nameBytes, 1, api.MaxName)))
	names := append(slices.Clone(ahead.names[:depth]), name)
	p, e := path.Join(names...)
	must(name != up && e == api.OK && ahead.isAhead(depth, name))
	return names, p
}

// data takes a file's data: how many bytes it has, and its filled stretches.
func (r *reader) data() (int, []stretch) {
	var filled []stretch
	size := r.whole(dataBytes, 0, maxData)
	ahead := -1 // the kind of the stretch ahead
	for at := 0; at < size; {
		kind := r.whole(kindBytes, kindHole, kindFilled)
		must(kind != ahead)
		s := stretch{at: at, size: r.whole(dataBytes, leastOf(kind), size-at)}
		at += s.size
		if kind == kindFilled {
			s.bytes = r.row(s.size)
			must(isFilled(s.bytes, ahead == kindHole, at < size))
			filled = append(filled, s)
		}
		ahead = kind
	}
	return size, filled
}

func leastOf(kind int) int {
	if kind == kindHole {
		return leastHole
	}
	return 1
}

// isFilled tells whether bytes are a filled stretch: bytes 0 beside a hole belong to that.
func isFilled(b []byte, behindHole, aheadOfHole bool) bool {
	at, _ := firstHole(b, 0)
	return at == len(b) && !(behindHole && b[0] == 0) && !(aheadOfHole && b[len(b)-1] == 0)
}

// end takes what stands behind the pieces of a row.
func (r *reader) end(row []byte) {
	sum := words.Sum(row[:len(row)-len(r.left)])
	if r.number(sumBytes) != uint64(sum) {
		panic(fault{api.ErrSum})
	}
	if len(r.left) > 0 {
		panic(fault{api.ErrParcel})
	}
}
