package volume

import (
	"math"
	"reflect"
	"slices"
	"strings"
	"testing"

	"shale/api"
	"shale/chip"
	"shale/point"
	"shale/scan"
)

// The examples of chapter 15, step by step.
func TestExamples(t *testing.T) {
	b := begun(t, roomy())
	a := fileIn(1, "a")
	b.makes(2, a)
	b.gives("Make", header(2, a))
	b.writes(2, 250, "0123456789")
	b.gives("Write", chunk(2, 0, zeros(250)+"012345"), chunk(2, 1, "6789"))
	b.reads(2, 248, 100, "\x00\x000123456789")
	b.writes(2, 600, "x")
	b.gives("Write", chunk(2, 2, zeros(88)+"x"))
	sized := func(size int) api.Node { n := a; n.Size = size; return n }
	b.has(2, sized(601))
	b.is("Cut", b.Cut(2, 300), api.OK)
	b.gives("Cut to 300", lastChunk(2, 1, "6789"+zeros(40)))
	for _, size := range []int{512, 256, 1000, 700} {
		b.is("Cut", b.Cut(2, size), api.OK)
		b.gives("Cut", header(2, sized(size)))
	}
	b.makes(3, dirIn(1, "d"))
	b.is("Move", b.Move(2, 3, "b"), api.OK)
	moved := sized(700)
	moved.Parent, moved.Name = 3, "b"
	b.gives("Make, Move", header(3, dirIn(1, "d")), header(2, moved))
	b.makes(4, fileIn(3, "c"))
	b.is("Move", b.Move(4, 3, "b"), api.OK)
	over := fileIn(3, "b")
	over.Shadow = 2
	b.gives("Make, Move", header(4, fileIn(3, "c")), header(4, over))
	b.is("Move", b.Move(3, 3, "x"), api.ErrInto)
	b.is("Move", b.Move(1, 3, "x"), api.ErrRoot)
	b.is("Move", b.Move(4, 9, "x"), api.ErrObject)
	b.is("Unlink", b.Unlink(3), api.ErrUsed)
	b.gives("what is refused")
}

// V1: point's log, or its error.
func TestV1Mount(t *testing.T) {
	c, _ := chip.New(small(), nil, []api.Fault{{At: 4, Kind: api.FaultCut}})
	if v, e := Mount(c); v != nil || e != api.ErrNone {
		t.Errorf("Mount of a new chip: %v, %d", v, e)
	}
	scan.Format(c)
	b := mounted(t, c)
	if list, e := b.List(1); len(list) != 0 || e != api.OK || len(b.State().Objects) != 0 {
		t.Errorf("an empty volume: %v, %d", list, e)
	}
	b.Make(fileIn(1, "a"))
	if v, e := Mount(c); v != nil || e != api.ErrOff {
		t.Errorf("Mount without power: %v, %d", v, e)
	}
	b = begun(t, roomy())
	b.makes(2, fileIn(1, "a"))
	if is, e := b.Sync(); !is || e != api.OK {
		t.Fatalf("Sync: %v, %d", is, e)
	}
	l, saved, e := point.Mount(b.c)
	if !saved || e != api.OK || !reflect.DeepEqual(l.State(), b.again().State()) {
		t.Errorf("Mount by a checkpoint: %v, %d", saved, e)
	}
}

// V2: the root, what is there, what is unlinked and not forgotten.
func TestV2Node(t *testing.T) {
	b := begun(t, roomy())
	b.has(1, api.Node{Type: api.TypeDir, Parent: 1, Mode: 493})
	list := []api.Node{fileIn(1, "a"), dirIn(1, "d"), linkIn(3, "l")}
	b.makes(2, list...)
	for i, n := range list {
		b.has(2+i, n)
	}
	for _, id := range []int{0, -1, 5, api.MaxObject, api.MaxObject + 1, math.MaxInt, math.MinInt} {
		if n, e := b.Node(id); n != (api.Node{}) || e != api.ErrObject {
			t.Errorf("Node(%d): %v, %d", id, n, e)
		}
	}
	b.writes(2, 3, "xyz")
	b.is("Unlink", b.Unlink(2), api.OK)
	gone := fileIn(0, "a")
	gone.Size = 6
	b.has(2, gone)
	b.is("Forget", b.Forget(2), api.OK)
	if n, e := b.Node(2); n != (api.Node{}) || e != api.ErrObject {
		t.Errorf("what was forgotten: %v, %d", n, e)
	}
}

// grove: 2 is a file, 3 a directory, 4 a link, 5 a file in 3, 6 a directory that is unlinked, 7 a file that is unlinked, 8 a directory without entries, 9 one in 3.
func grove(t *testing.T) *bench {
	t.Helper()
	b := begun(t, roomy())
	b.makes(2, fileIn(1, "f"), dirIn(1, "d"), linkIn(1, "l"), fileIn(3, "g"), dirIn(1, "x"), fileIn(1, "y"), dirIn(1, "e"), dirIn(3, "h"))
	b.is("Unlink", b.Unlink(6), api.OK)
	b.is("Unlink", b.Unlink(7), api.OK)
	b.steps()
	return b
}

// badParents tells of each object that may be no parent what is wrong with it.
func badParents() map[int]api.Errno {
	return map[int]api.Errno{
		0: api.ErrObject, -1: api.ErrObject, 10: api.ErrObject, 1 << 20: api.ErrObject, math.MaxInt: api.ErrObject, math.MinInt: api.ErrObject,
		6: api.ErrObject, 7: api.ErrObject, // unlinked, a directory or not
		2: api.ErrNotDir, 4: api.ErrNotDir, 5: api.ErrNotDir,
	}
}

// V3: which objects may be a parent; what is found and listed.
func TestV3FindAndList(t *testing.T) {
	b := grove(t)
	for parent, want := range badParents() {
		if id, e := b.Find(parent, "f"); id != 0 || e != want {
			t.Errorf("Find(%d): %d, %d, want %d", parent, id, e, want)
		}
		if list, e := b.List(parent); len(list) != 0 || e != want {
			t.Errorf("List(%d): %v, %d, want %d", parent, list, e, want)
		}
	}
	for _, name := range []string{"", ".", "..", "F", "ff", "g", "x", "y", "a/b", strings.Repeat("f", 99)} {
		if id, e := b.Find(1, name); id != 0 || e != api.ErrMissing {
			t.Errorf("Find(1, %q): %d, %d", name, id, e)
		}
	}
	if id, e := b.Find(3, "h"); id != 9 || e != api.OK {
		t.Errorf("Find(3, h): %d, %d", id, e)
	}
	b.makes(10, fileIn(8, "b"), fileIn(8, "a\xff"), fileIn(8, "B"), linkIn(8, "\xc3\xa4"), dirIn(8, "a"), fileIn(8, "a\x01"))
	list, e := b.List(8)
	want := []api.Entry{{Name: "B", Id: 12, Type: api.TypeFile}, {Name: "a", Id: 14, Type: api.TypeDir}, {Name: "a\x01", Id: 15, Type: api.TypeFile}, {Name: "a\xff", Id: 11, Type: api.TypeFile}, {Name: "b", Id: 10, Type: api.TypeFile}, {Name: "\xc3\xa4", Id: 13, Type: api.TypeLink}}
	if e != api.OK || !slices.Equal(list, want) {
		t.Errorf("List: %v, %d, want %v", list, e, want)
	}
	for _, x := range list {
		if id, e := b.Find(8, x.Name); id != x.Id || e != api.OK {
			t.Errorf("Find(8, %q): %d, %d", x.Name, id, e)
		}
	}
}

// V4: what is refused, in the order of the document; and the numbers that are given.
func TestV4Make(t *testing.T) {
	b := grove(t)
	refused := func(n api.Node, want api.Errno) {
		t.Helper()
		if id, e := b.Make(n); id != 0 || e != want {
			t.Errorf("Make(%v): %d, %d, want %d", n, id, e, want)
		}
	}
	for parent, want := range badParents() {
		if parent < 0 || parent > api.MaxObject {
			want = api.ErrNode // node.Check knows of no such parent
		}
		refused(fileIn(parent, "new"), want)
		refused(dirIn(parent, "f"), want)
	}
	refused(fileIn(1, "f"), api.ErrExists)
	refused(dirIn(1, "l"), api.ErrExists)
	refused(linkIn(3, "h"), api.ErrExists)
	refused(fileIn(1, ".."), api.ErrName)
	refused(fileIn(2, ""), api.ErrName)
	refused(api.Node{Type: api.TypeLink, Parent: 1, Name: "n"}, api.ErrTarget)
	refused(api.Node{Type: 4, Parent: 1, Name: "n"}, api.ErrNode)
	refused(api.Node{Type: api.TypeFile, Parent: 2, Name: "n", Mode: 4096}, api.ErrNode)
	refused(api.Node{Type: api.TypeFile, Parent: 1, Name: "", Size: 1}, api.ErrNode) // ahead of the name
	refused(api.Node{Type: api.TypeFile, Parent: 1, Name: "", Shadow: 2}, api.ErrNode)
	refused(api.Node{Type: api.TypeFile, Parent: 1, Name: "n", Size: -1}, api.ErrNode)
	refused(api.Node{Type: api.TypeFile, Parent: 1, Name: "n", Shadow: 2}, api.ErrNode)
	b.gives("what is refused")
	b.makes(10, fileIn(3, "f"))
	b.gives("Make", header(10, fileIn(3, "f")))
	b.is("Forget", b.Forget(6), api.OK) // 7 is unlinked, and still has its number
	greatest := api.Node{Type: api.TypeLink, Parent: 9, Name: strings.Repeat("\xff", 63), Mode: 4095, Stamp: math.MaxUint64, Target: strings.Repeat("/", 127)}
	b.makes(6, greatest)
	b.gives("Make", header(6, greatest))
	b.has(6, greatest)
	b.makes(11, dirIn(1, "x"))
}

// V4, V6, P7: at the limit, header and chunks alike.
func TestRoom(t *testing.T) {
	b := begun(t, small())
	b.makes(2, fileIn(1, "a"))
	data := strings.Repeat("0123456789", 400)
	if n, e := b.Write(2, 100, []byte(data)); n != 14*256-100 || e != api.ErrSpace {
		t.Errorf("a Write beyond the limit: %d, %d", n, e)
	}
	b.reads(2, 0, 9999, zeros(100)+data[:14*256-100])
	b.has(2, api.Node{Type: api.TypeFile, Parent: 1, Name: "a", Size: 14 * 256, Mode: 420, Stamp: 7})
	if id, e := b.Make(dirIn(1, "d")); id != 0 || e != api.ErrSpace {
		t.Errorf("Make beyond the limit: %d, %d", id, e)
	}
	if b.Usage() != (api.Usage{Good: 12, Live: 15, Limit: 15}) {
		t.Errorf("Usage: %v", b.Usage())
	}
	b.writes(2, 0, data[:14*256]) // nothing of it grows
	b.is("Cut", b.Cut(2, 13*256), api.OK)
	b.makes(3, dirIn(1, "d"))
}

// V5: which bytes are told.
func TestV5Read(t *testing.T) {
	b := grove(t)
	b.writes(2, 600, "0123456789")
	all := zeros(600) + "0123456789"
	for _, at := range []int{0, 1, 255, 256, 257, 511, 512, 599, 600, 605, 609, 610, 611, 9999, math.MaxInt} {
		for _, n := range []int{0, 1, 2, 10, 255, 256, 257, 512, 609, 610, 611, math.MaxInt} {
			want := ""
			if at < len(all) {
				want = all[at:]
				want = want[:min(n, len(want))]
			}
			b.reads(2, at, n, want)
		}
	}
	b.is("Cut", b.Cut(2, 2000), api.OK)
	b.reads(2, 608, math.MaxInt, "89"+zeros(1390))
	refused := func(id, at, n int, want api.Errno) {
		t.Helper()
		if got, e := b.Read(id, at, n); got != nil || e != want {
			t.Errorf("Read(%d, %d, %d): %v, %d, want %d", id, at, n, got, e, want)
		}
	}
	refused(2, -1, 0, api.ErrRange)
	refused(2, 0, -1, api.ErrRange)
	refused(2, math.MinInt, math.MinInt, api.ErrRange)
	refused(99, -1, -1, api.ErrObject)
	refused(0, 0, 0, api.ErrObject)
	refused(3, -1, -1, api.ErrType)
	refused(1, 0, 1, api.ErrType)
	refused(4, 0, 1, api.ErrType)
	b.reads(7, 0, 9, "") // unlinked, and there all the same
}

// spoils makes a chunk's page one that can't be read, as only others could.
func (b *bench) spoils(id, k int) {
	b.t.Helper()
	piece, there := b.Table().Piece(id, k)
	if !there || b.c.Erase(piece.Place.Block) != api.OK {
		b.t.Fatalf("the chunk %d of %d is not there", k, id)
	}
	b.seen = len(b.c.Trace())
}

// V5, V6, V7: a chunk that can't be read ends the call, also where all its bytes would be laid over.
func TestUnreadable(t *testing.T) {
	b := grove(t)
	b.writes(2, 0, strings.Repeat("a", 256*8))
	b.spoils(2, 5)
	b.steps()
	list, _ := b.Table().Piece(2, 0)
	bad, _ := b.Table().Piece(2, 5)
	if list.Place.Block == bad.Place.Block {
		t.Fatal("the chunks 0 and 5 share a block")
	}
	if got, e := b.Read(2, 0, 9999); got != nil || e != api.ErrPage {
		t.Errorf("Read: %d bytes, %d", len(got), e)
	}
	b.reads(2, 0, 9, "aaaaaaaaa")
	if n, e := b.Write(2, 5*256, make([]byte, 256)); n != 0 || e != api.ErrPage {
		t.Errorf("Write over all of it: %d, %d", n, e)
	}
	b.is("Cut", b.Cut(2, 5*256+1), api.ErrPage)
	b.gives("what is refused")
	b.is("Cut", b.Cut(2, 5*256), api.OK) // nothing is read
}

// V6: what is refused, and what each step writes.
func TestV6Write(t *testing.T) {
	b := grove(t)
	const most = 256 << 20
	refused := func(id, at, n int, want api.Errno) {
		t.Helper()
		if got, e := b.Write(id, at, make([]byte, n)); got != 0 || e != want {
			t.Errorf("Write(%d, %d, %d bytes): %d, %d, want %d", id, at, n, got, e, want)
		}
	}
	refused(99, -1, 1, api.ErrObject)
	refused(3, -1, 1, api.ErrType)
	refused(1, 0, 0, api.ErrType)
	refused(4, 0, 1, api.ErrType)
	refused(2, -1, 0, api.ErrRange)
	refused(2, math.MinInt, 5, api.ErrRange)
	refused(2, most, 1, api.ErrBig)
	refused(2, most+1, 0, api.ErrBig)
	refused(2, most-1, 2, api.ErrBig)
	refused(2, math.MaxInt, 1, api.ErrBig)
	refused(2, math.MaxInt, 0, api.ErrBig)
	refused(2, most, 0, api.OK)
	refused(2, 77, 0, api.OK)
	b.gives("what is refused, or has no bytes")
	b.has(2, fileIn(1, "f"))
	b.writes(2, 10, "abc")
	b.gives("at first", chunk(2, 0, zeros(10)+"abc"))
	b.writes(2, 11, "X")
	b.gives("inside", chunk(2, 0, zeros(10)+"aXc"))
	b.writes(2, 12, "YZ")
	b.gives("over the end", chunk(2, 0, zeros(10)+"aXYZ"))
	whole := strings.Repeat("w", 256)
	b.writes(2, 256, whole)
	b.gives("a whole chunk", chunk(2, 1, whole))
	b.writes(2, 100, "m")
	b.gives("a chunk that is not the last", chunk(2, 0, zeros(10)+"aXYZ"+zeros(86)+"m"+zeros(155)))
	b.is("Cut", b.Cut(2, 900), api.OK)
	b.steps()
	b.writes(2, 770, "t")
	b.gives("a hole at the end", chunk(2, 3, "\x00\x00t"+zeros(129)))
	b.writes(2, 254, "1234")
	b.gives("two chunks", chunk(2, 0, zeros(10)+"aXYZ"+zeros(86)+"m"+zeros(153)+"12"), chunk(2, 1, "34"+whole[2:]))
	b.writes(2, 895, strings.Repeat("z", 400))
	b.gives("behind the end", chunk(2, 3, "\x00\x00t"+zeros(124)+strings.Repeat("z", 129)), chunk(2, 4, strings.Repeat("z", 256)), chunk(2, 5, strings.Repeat("z", 15)))
	b.writes(7, 0, "u")
	b.gives("unlinked", chunk(7, 0, "u"))
	b.writes(7, most-1, "!")
	b.gives("the last byte that may be", chunk(7, api.MaxChunk, zeros(255)+"!"))
	b.reads(7, most-2, 9, "\x00!")
}

// V6 where a page has more than one sector: C is that of the geometry, and MaxSize too.
func TestSectors(t *testing.T) {
	b := begun(t, shape(20, 6, 8))
	b.makes(2, fileIn(1, "a"))
	b.steps()
	data := strings.Repeat("s", 3000)
	b.writes(2, 2000, data)
	b.gives("Write", chunk(2, 0, zeros(2000)+data[:48]), chunk(2, 1, data[:2048]), chunk(2, 2, data[:904]))
	b.is("Cut", b.Cut(2, 1<<31), api.OK)
	b.is("Cut", b.Cut(2, 1<<31+1), api.ErrBig)
	b.writes(2, 1<<31-1, "e")
	if n, e := b.Write(2, 1<<31-1, []byte("ee")); n != 0 || e != api.ErrBig {
		t.Errorf("Write: %d, %d", n, e)
	}
	b.reads(2, 1<<31-3, 9, "\x00\x00e")
}

// V7: what is refused, and which record each cut is.
func TestV7Cut(t *testing.T) {
	b := grove(t)
	const most = 256 << 20
	b.is("no object", b.Cut(99, -1), api.ErrObject)
	b.is("a directory", b.Cut(3, -1), api.ErrType)
	b.is("the root", b.Cut(1, 0), api.ErrType)
	b.is("a link", b.Cut(4, 0), api.ErrType)
	b.is("below 0", b.Cut(2, -1), api.ErrRange)
	b.is("far below 0", b.Cut(2, math.MinInt), api.ErrRange)
	b.is("too great", b.Cut(2, most+1), api.ErrBig)
	b.is("far too great", b.Cut(2, math.MaxInt), api.ErrBig)
	b.is("as it is", b.Cut(2, 0), api.OK)
	b.gives("what is refused, or changes nothing")
	sized := func(size int) api.Record { n := fileIn(1, "f"); n.Size = size; return header(2, n) }
	cuts := func(size int, want api.Record) {
		t.Helper()
		b.is("Cut", b.Cut(2, size), api.OK)
		b.gives("Cut", want)
	}
	cuts(most, sized(most))
	cuts(0, sized(0))
	b.writes(2, 0, strings.Repeat("a", 700))
	b.steps()
	b.is("as it is", b.Cut(2, 700), api.OK)
	b.gives("as it is")
	cuts(701, sized(701)) // longer: the chunk stays as it is
	cuts(699, lastChunk(2, 2, strings.Repeat("a", 187)))
	cuts(513, lastChunk(2, 2, "a"))
	cuts(512, sized(512))
	cuts(511, lastChunk(2, 1, strings.Repeat("a", 255)))
	cuts(600, sized(600))
	cuts(512, sized(512))
	cuts(1, lastChunk(2, 0, "a"))
	cuts(300, sized(300))
	cuts(257, sized(257)) // the chunk 1 is not there
	cuts(100, lastChunk(2, 0, "a"+zeros(99)))
	b.reads(2, 0, 999, "a"+zeros(99))
	if live := b.Usage().Live; live != 8+1 {
		t.Errorf("%d pages are current, want eight headers and the chunk 0", live)
	}
	b.writes(7, 0, "unlinked")
	b.steps()
	gone := fileIn(0, "y")
	gone.Size = 99
	b.is("unlinked", b.Cut(7, 99), api.OK)
	b.gives("unlinked", header(7, gone))
}
