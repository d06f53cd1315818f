package parcel

import (
	"bytes"
	"math/rand"
	"reflect"
	"slices"
	"strings"
	"testing"

	"shale/api"
	"shale/path"
	"shale/words"
)

func rep(b byte, n int) []byte { return bytes.Repeat([]byte{b}, n) }

func dir(p string) api.Leaf { return api.Leaf{Path: p, Type: api.TypeDir, Mode: 493} }

func file(p string, data ...byte) api.Leaf {
	return api.Leaf{Path: p, Type: api.TypeFile, Mode: 420, Data: data}
}

func link(p, target string) api.Leaf { return api.Leaf{Path: p, Type: api.TypeLink, Target: target} }

// example is the chapter's tree T.
func example() []api.Leaf {
	a := file("/a", []byte("hi")...)
	a.Stamp = 5
	return []api.Leaf{dir("/"), a, dir("/d"), link("/d/l", "../a")}
}

func sealed(parts ...[]byte) []byte {
	b := slices.Concat(parts...)
	s := words.Sum(b)
	return append(b, byte(s), byte(s>>8), byte(s>>16), byte(s>>24))
}

// le is a number of so many bytes.
func le(size int, v uint64) []byte {
	b := make([]byte, size)
	for i := range b {
		b[i] = byte(v >> (8 * i))
	}
	return b
}

func packed(t *testing.T, tree []api.Leaf) []byte {
	t.Helper()
	b, e := Pack(tree)
	if e != api.OK {
		t.Fatalf("Pack: %d", e)
	}
	return b
}

// sameTree: data that is nil or empty is the same.
func sameTree(a, b []api.Leaf) bool {
	return slices.EqualFunc(a, b, func(x, y api.Leaf) bool {
		same := bytes.Equal(x.Data, y.Data)
		x.Data, y.Data = nil, nil
		return same && reflect.DeepEqual(x, y)
	})
}

func slowNames(p string) []string {
	if p == "/" {
		return nil
	}
	return strings.Split(p[1:], "/")
}

// slowLeaf tells whether a leaf may be, rule by rule.
func slowLeaf(l api.Leaf) bool {
	if p, e := path.Clean(l.Path); e != api.OK || p != l.Path || slices.Contains(slowNames(p), "..") {
		return false
	}
	switch l.Type {
	case api.TypeFile:
		return l.Mode >= 0 && l.Mode <= 4095 && l.Target == "" && len(l.Data) <= 16777216
	case api.TypeDir:
		return l.Mode >= 0 && l.Mode <= 4095 && l.Target == "" && len(l.Data) == 0
	case api.TypeLink:
		return l.Mode >= 0 && l.Mode <= 4095 && len(l.Data) == 0 && len(l.Target) > 0 && len(l.Target) <= 127 && !strings.Contains(l.Target, "\x00")
	}
	return false
}

// slowTree tells whether a tree may be: each leaf's directory is looked for among all leaves.
func slowTree(tree []api.Leaf) api.Errno {
	if len(tree) == 0 || tree[0].Path != "/" || tree[0].Type != api.TypeDir {
		return api.ErrParcel
	}
	for n, l := range tree {
		if !slowLeaf(l) {
			return api.ErrPiece
		}
		if n == 0 {
			continue
		}
		names := slowNames(l.Path)
		if slices.Compare(names, slowNames(tree[n-1].Path)) <= 0 || len(names) == 0 {
			return api.ErrPiece
		}
		above := "/" + strings.Join(names[:len(names)-1], "/")
		if !slices.ContainsFunc(tree, func(x api.Leaf) bool { return x.Path == above && x.Type == api.TypeDir }) {
			return api.ErrPiece
		}
	}
	return api.OK
}

// slowCut cuts data into stretches: of each byte it asks whether it is one of 16 or more bytes 0 that follow one another.
func slowCut(data []byte) (cut [][]byte, holes []bool) {
	inHole := func(n int) bool {
		from, to := n, n
		for from >= 0 && data[from] == 0 {
			from--
		}
		for to < len(data) && data[to] == 0 {
			to++
		}
		return to-from-1 >= 16
	}
	for n := range data {
		hole := inHole(n)
		if len(cut) == 0 || holes[len(holes)-1] != hole {
			cut, holes = append(cut, nil), append(holes, hole)
		}
		cut[len(cut)-1] = append(cut[len(cut)-1], data[n])
	}
	return cut, holes
}

func slowPiece(l api.Leaf) []byte {
	names := slowNames(l.Path)
	last := names[len(names)-1]
	b := slices.Concat([]byte{byte(len(names) - 1), byte(l.Type)}, le(2, uint64(l.Mode)), le(8, l.Stamp), []byte{byte(len(last))}, []byte(last))
	switch l.Type {
	case api.TypeFile:
		b = append(b, le(4, uint64(len(l.Data)))...)
		cut, holes := slowCut(l.Data)
		for n, x := range cut {
			if holes[n] {
				b = slices.Concat(b, []byte{0}, le(4, uint64(len(x))))
			} else {
				b = slices.Concat(b, []byte{1}, le(4, uint64(len(x))), x)
			}
		}
	case api.TypeLink:
		b = slices.Concat(b, []byte{byte(len(l.Target))}, []byte(l.Target))
	}
	return b
}

func slowPack(tree []api.Leaf) ([]byte, api.Errno) {
	if e := slowTree(tree); e != api.OK {
		return nil, e
	}
	b := slices.Concat([]byte("PRCL\x01"), le(2, uint64(tree[0].Mode)), le(8, tree[0].Stamp))
	for _, l := range tree[1:] {
		b = append(b, slowPiece(l)...)
	}
	return sealed(b, []byte{255}), api.OK
}

// slowReader reads a row part by part; once it has found a fault, it stays.
type slowReader struct {
	b  []byte
	at int
	e  api.Errno
}

// part takes so many bytes, if they are there.
func (r *slowReader) part(n int) []byte {
	if r.e == api.OK && len(r.b)-r.at < n {
		r.e = api.ErrParcel
	}
	if r.e != api.OK {
		return make([]byte, n)
	}
	r.at += n
	return r.b[r.at-n : r.at]
}

func (r *slowReader) num(n int) int {
	v := uint64(0)
	for i, x := range r.part(n) {
		v |= uint64(x) << (8 * i)
	}
	return int(v)
}

// asks: the part that was taken last may not be, unless.
func (r *slowReader) asks(so bool) {
	if r.e == api.OK && !so {
		r.e = api.ErrPiece
	}
}

func slowRead(b []byte) ([]api.Leaf, api.Errno) {
	if !bytes.HasPrefix(b, []byte("PRCL\x01")) {
		return nil, api.ErrParcel
	}
	r := &slowReader{b: b, at: 5}
	first := dir("/")
	first.Mode = r.num(2)
	r.asks(first.Mode <= 4095)
	first.Stamp = uint64(r.num(8))
	tree := []api.Leaf{first}
	for r.e == api.OK {
		n := r.num(1)
		if r.e == api.OK && n == 255 {
			break
		}
		tree = append(tree, r.leaf(tree[len(tree)-1], n))
	}
	body := r.at
	sum := r.part(4)
	switch {
	case r.e != api.OK:
		return nil, r.e
	case !bytes.Equal(sealed(b[:body])[body:], sum):
		return nil, api.ErrSum
	case r.at < len(b):
		return nil, api.ErrParcel
	}
	return tree, api.OK
}

func (r *slowReader) leaf(ahead api.Leaf, n int) api.Leaf {
	var l api.Leaf
	names := slowNames(ahead.Path)
	most := len(names)
	if ahead.Type != api.TypeDir {
		most--
	}
	r.asks(n <= 63 && n <= most)
	l.Type = r.num(1)
	r.asks(l.Type >= 1 && l.Type <= 3)
	l.Mode = r.num(2)
	r.asks(l.Mode <= 4095)
	l.Stamp = uint64(r.num(8))
	size := r.num(1)
	r.asks(size >= 1 && size <= 63)
	name := string(r.part(size))
	r.asks(!strings.ContainsAny(name, "/\x00") && name != "." && name != "..")
	if r.e != api.OK {
		return l
	}
	own := append(slices.Clone(names[:n]), name)
	l.Path = "/" + strings.Join(own, "/")
	r.asks(slices.Compare(own, names) > 0 && len(l.Path) <= 1023)
	switch l.Type {
	case api.TypeFile:
		l.Data = r.data()
	case api.TypeLink:
		size := r.num(1)
		r.asks(size >= 1 && size <= 127)
		l.Target = string(r.part(size))
		r.asks(!strings.Contains(l.Target, "\x00"))
	}
	return l
}

func (r *slowReader) data() []byte {
	size := r.num(4)
	r.asks(size <= 1<<24)
	var data []byte
	ahead := 2
	for r.e == api.OK && len(data) < size {
		kind := r.num(1)
		r.asks(kind < 2 && kind != ahead)
		n := r.num(4)
		r.asks(n >= 1 && (kind == 1 || n >= 16) && n <= size-len(data))
		if r.e != api.OK {
			return nil
		}
		if kind == 0 {
			data = append(data, make([]byte, n)...)
		} else {
			b := r.part(n)
			r.asks(!bytes.Contains(b, make([]byte, 16)) && !(ahead == 0 && b[0] == 0) && !(len(data)+n < size && b[n-1] == 0))
			data = append(data, b...)
		}
		ahead = kind
	}
	return data
}

func someName(r *rand.Rand) string {
	switch r.Intn(12) {
	case 0:
		return strings.Repeat("n", 1+r.Intn(63))
	case 1:
		return string([]byte{byte(1 + r.Intn(45))})
	case 2:
		return string([]byte{byte(128 + r.Intn(128)), '!'})
	}
	return string(rune('a'+r.Intn(5))) + strings.Repeat("!", r.Intn(2))
}

// someData has rows of bytes 0 of lengths near to a hole's.
func someData(r *rand.Rand) []byte {
	var data []byte
	for range r.Intn(7) {
		if r.Intn(2) == 0 {
			data = append(data, make([]byte, r.Intn(20))...)
		} else {
			data = append(data, rep(byte(r.Intn(3)), r.Intn(18))...)
		}
	}
	return data
}

func someLeaf(r *rand.Rand, p string) api.Leaf {
	l := api.Leaf{Path: p, Type: 1 + r.Intn(3), Mode: r.Intn(4096)}
	if r.Intn(2) == 0 {
		l.Stamp = r.Uint64() >> r.Intn(64)
	}
	switch l.Type {
	case api.TypeFile:
		l.Data = someData(r)
	case api.TypeLink:
		l.Target = strings.Repeat("t", 1+r.Intn(127))
	}
	return l
}

// someTree is one that may be.
func someTree(r *rand.Rand, most int) []api.Leaf {
	first := dir("/")
	first.Mode, first.Stamp = r.Intn(4096), r.Uint64()
	tree := []api.Leaf{first}
	for range r.Intn(most + 1) {
		above := tree[r.Intn(len(tree))]
		names := append(slowNames(above.Path), someName(r))
		l := someLeaf(r, "/"+strings.Join(names, "/"))
		taken := slices.ContainsFunc(tree, func(x api.Leaf) bool { return x.Path == l.Path })
		if above.Type == api.TypeDir && !taken && len(l.Path) <= 1023 && len(names) <= 64 {
			tree = append(tree, l)
		}
	}
	slices.SortFunc(tree, func(a, b api.Leaf) int { return slices.Compare(slowNames(a.Path), slowNames(b.Path)) })
	return tree
}
