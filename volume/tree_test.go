package volume

import (
	"math"
	"slices"
	"strings"
	"testing"

	"shale/api"
)

// V8: what is refused, in the order of the document; the root ahead of all.
func TestV8MoveRefused(t *testing.T) {
	b := grove(t)
	refused := func(id, parent int, name string, want api.Errno) {
		t.Helper()
		if e := b.Move(id, parent, name); e != want {
			t.Errorf("Move(%d, %d, %q): %d, want %d", id, parent, name, e, want)
		}
	}
	refused(1, 99, "", api.ErrRoot)
	refused(1, 1, "n", api.ErrRoot)
	for _, id := range []int{0, -1, 99, 1 << 20, math.MaxInt, 6, 7} {
		refused(id, 2, "", api.ErrObject)
		refused(id, 1, "n", api.ErrObject)
	}
	for _, name := range []string{"", ".", "..", "a/b", "\x00", strings.Repeat("n", 64)} {
		refused(2, 99, name, api.ErrName)
		refused(3, 3, name, api.ErrName)
	}
	for parent, want := range badParents() {
		refused(2, parent, "n", want)
		refused(3, parent, "n", want)
	}
	refused(3, 3, "n", api.ErrInto)
	refused(3, 9, "n", api.ErrInto)
	refused(3, 3, "g", api.ErrInto) // ahead of ErrNotDir
	refused(2, 1, "d", api.ErrIsDir)
	refused(4, 3, "h", api.ErrIsDir)
	refused(8, 1, "f", api.ErrNotDir)
	refused(8, 1, "l", api.ErrNotDir)
	refused(8, 1, "d", api.ErrUsed)
	refused(9, 1, "d", api.ErrUsed) // its own parent
	b.gives("what is refused")
}

// V8: where an object has this name already, nothing is to be done.
func TestV8MoveToItself(t *testing.T) {
	b := grove(t)
	b.is("a file", b.Move(2, 1, "f"), api.OK)
	b.is("a directory with entries", b.Move(3, 1, "d"), api.OK)
	b.is("a file below", b.Move(5, 3, "g"), api.OK)
	b.gives("to where it is")
	b.has(2, fileIn(1, "f"))
}

// V8: each sort of object comes to another place, and in the place of another one.
func TestV8Move(t *testing.T) {
	b := grove(t)
	b.writes(2, 0, "bytes")
	b.steps()
	moves := func(id, parent int, name string, shadow int) {
		t.Helper()
		n, _ := b.Node(id)
		b.is("Move", b.Move(id, parent, name), api.OK)
		n.Parent, n.Name = parent, name
		b.has(id, n)
		n.Shadow = shadow
		b.gives("Move", header(id, n))
		if found, e := b.Find(parent, name); found != id || e != api.OK {
			t.Errorf("Find(%d, %q): %d, %d, want %d", parent, name, found, e, id)
		}
		if shadow != 0 {
			old, e := b.Node(shadow)
			if old.Parent != 0 || e != api.OK {
				t.Errorf("what was replaced: %v, %d", old, e)
			}
		}
	}
	moves(2, 1, "new", 0)     // another name
	moves(2, 9, "f", 0)       // another directory
	b.reads(2, 0, 9, "bytes") // and the same bytes
	moves(3, 8, "d", 0)       // a directory with entries
	moves(3, 8, "x", 0)       // and again, beside where it was
	moves(2, 8, "f", 0)       // up
	moves(4, 8, "f", 2)       // a link in the place of a file
	moves(5, 8, "f", 4)       // a file in the place of a link
	b.reads(2, 0, 9, "bytes") // what was replaced is there till it is forgotten
	b.is("Move", b.Move(2, 1, "f"), api.ErrObject)
	b.is("Forget", b.Forget(2), api.OK)
	b.makes(2, dirIn(1, "z"))
	b.steps()
	moves(3, 1, "z", 2) // a directory with entries in the place of one without
	moves(9, 1, "h", 0)
	moves(8, 9, "up", 0) // what was above comes below
	moves(9, 3, "in", 0)
	b.is("Move", b.Move(3, 8, "n"), api.ErrInto) // three below
	want := []api.Entry{{Name: "z", Id: 3, Type: api.TypeDir}}
	if list, e := b.List(1); e != api.OK || !slices.Equal(list, want) {
		t.Errorf("List(1): %v, %d, want %v", list, e, want)
	}
	b = b.again()
	if list, e := b.List(1); e != api.OK || !slices.Equal(list, want) {
		t.Errorf("List(1) behind a mount: %v, %d, want %v", list, e, want)
	}
	for _, id := range []int{2, 4, 6, 7} {
		if _, e := b.Node(id); e != api.ErrObject {
			t.Errorf("%d was unlinked, and is there behind a mount: %d", id, e)
		}
	}
}

// V8 of trees that others have made: parents that go round, that are not there, that are files; and two objects of one name.
func TestV8OthersTrees(t *testing.T) {
	b := begun(t, roomy())
	b.lays(
		header(2, dirIn(3, "a")), header(3, dirIn(4, "b")), header(4, dirIn(2, "c")), // 2, 3, 4 go round
		header(5, dirIn(4, "d")),                            // comes to the round
		header(6, dirIn(6, "e")),                            // lies in itself
		header(7, dirIn(99, "f")), header(8, dirIn(7, "g")), // comes to what is not there
		header(9, fileIn(1, "h")), header(10, dirIn(9, "i")), header(11, dirIn(10, "j")), // lies below a file
		header(12, dirIn(1, "k")), header(13, dirIn(1, "m")),
		header(14, fileIn(1, "twin")), header(15, fileIn(1, "twin")),
	)
	b.steps()
	for _, parent := range []int{2, 3, 4, 5} {
		for _, id := range []int{2, 3, 4} {
			b.is("into the round that it is in", b.Move(id, parent, "n"), api.ErrInto)
		}
	}
	b.is("into itself", b.Move(6, 6, "n"), api.ErrInto)
	b.is("into itself", b.Move(5, 5, "n"), api.ErrInto)
	b.is("into what lies in it", b.Move(7, 8, "n"), api.ErrInto)
	b.is("into what lies in it", b.Move(10, 11, "n"), api.ErrInto)
	b.gives("what is refused")
	for i, parent := range []int{5, 2, 3, 4, 6, 8, 11} {
		b.is("a directory from elsewhere", b.Move(12, parent, "n"), api.OK)
		b.gives("Move", header(12, api.Node{Type: api.TypeDir, Parent: parent, Name: "n", Mode: 493}))
		b.is("a file from elsewhere", b.Move(9, parent, "file"+string(rune('a'+i))), api.OK)
		b.steps()
	}
	b.is("out of what is not there", b.Move(8, 13, "n"), api.OK)
	b.is("out of itself", b.Move(6, 13, "o"), api.OK)
	b.steps()
	b.is("the first twin to where it is", b.Move(14, 1, "twin"), api.OK)
	b.gives("the first twin to where it is")
	over := fileIn(1, "twin")
	over.Shadow = 14
	b.is("the other twin in its place", b.Move(15, 1, "twin"), api.OK)
	b.gives("the other twin in its place", header(15, over))
}

// V9: what is refused, and the step.
func TestV9Unlink(t *testing.T) {
	b := grove(t)
	b.is("the root", b.Unlink(1), api.ErrRoot)
	for _, id := range []int{0, -1, 99, math.MaxInt, 6, 7} {
		b.is("no object, or unlinked already", b.Unlink(id), api.ErrObject)
	}
	b.is("a directory with entries", b.Unlink(3), api.ErrUsed)
	b.gives("what is refused")
	b.writes(2, 300, "x")
	b.is("Set", b.Set(2, 8, 9), api.OK)
	b.steps()
	gone := api.Node{Type: api.TypeFile, Name: "f", Size: 301, Mode: 8, Stamp: 9}
	b.is("a file", b.Unlink(2), api.OK)
	b.gives("Unlink", header(2, gone))
	b.has(2, gone)
	b.reads(2, 299, 9, "\x00x")
	link := linkIn(0, "l")
	b.is("a link", b.Unlink(4), api.OK)
	b.gives("Unlink", header(4, link))
	b.is("what lies in a directory", b.Unlink(5), api.OK)
	b.is("a directory with one entry still", b.Unlink(3), api.ErrUsed)
	b.is("its last one", b.Unlink(9), api.OK)
	b.is("a directory whose entries are unlinked", b.Unlink(3), api.OK)
	if list, e := b.List(1); e != api.OK || len(list) != 1 || list[0].Id != 8 {
		t.Errorf("List(1): %v, %d", list, e)
	}
	b.makes(10, linkIn(1, "f")) // the name can be given again, the number not yet
}

// V10: only what is unlinked is forgotten, without a step, and its pages are needed no more.
func TestV10Forget(t *testing.T) {
	b := grove(t)
	b.writes(7, 0, strings.Repeat("a", 600))
	b.steps()
	for _, id := range []int{0, 1, 2, 3, 4, 99, -1, math.MaxInt} {
		b.is("not unlinked", b.Forget(id), api.ErrObject)
	}
	ahead := b.Usage().Live
	b.is("a file of three chunks", b.Forget(7), api.OK)
	b.is("again", b.Forget(7), api.ErrObject)
	b.gives("Forget")
	if now := b.Usage().Live; now != ahead-4 {
		t.Errorf("%d pages were current, now %d", ahead, now)
	}
	if _, e := b.Read(7, 0, 1); e != api.ErrObject {
		t.Errorf("Read of what was forgotten: %d", e)
	}
	b.makes(7, dirIn(1, "again"))
}

// V11: what is refused, and the step.
func TestV11Set(t *testing.T) {
	b := grove(t)
	b.is("the root", b.Set(1, -1, 0), api.ErrRoot)
	b.is("no object", b.Set(99, -1, 0), api.ErrObject)
	b.is("no object", b.Set(0, 0, 0), api.ErrObject)
	for _, mode := range []int{-1, 4096, math.MaxInt, math.MinInt} {
		b.is("a mode that may not be", b.Set(2, mode, 7), api.ErrNode)
	}
	b.is("as it is", b.Set(2, 420, 7), api.OK)
	b.gives("what is refused, or changes nothing")
	b.writes(2, 0, "size")
	b.steps()
	sets := func(id, mode int, stamp uint64) {
		t.Helper()
		n, _ := b.Node(id)
		n.Mode, n.Stamp = mode, stamp
		b.is("Set", b.Set(id, mode, stamp), api.OK)
		b.gives("Set", header(id, n))
		b.has(id, n)
	}
	sets(2, 420, 8)
	sets(2, 421, 8)
	sets(2, 0, 0)
	sets(2, 4095, math.MaxUint64)
	sets(3, 1, 1)
	sets(4, 1, 1)
	sets(7, 1, 1) // unlinked, and there all the same
	b.reads(2, 0, 9, "size")
}

// V12: a checkpoint, if there is room; the log's Usage and State.
func TestV12Sync(t *testing.T) {
	b := grove(t)
	if is, e := b.Sync(); !is || e != api.OK {
		t.Errorf("Sync: %v, %d", is, e)
	}
	for _, r := range b.steps() {
		if r.Kind != api.KindSave {
			t.Errorf("Sync writes %v", r)
		}
	}
	if u := b.Usage(); u != (api.Usage{Good: 60, Live: 8, Limit: 53 * 7}) {
		t.Errorf("Usage: %v", u)
	}
	if s := b.State(); len(s.Objects) != 8 || len(s.Blocks) != 60 {
		t.Errorf("State: %v", s)
	}
	full := begun(t, shape(8, 4, 1))
	full.makes(2, fileIn(1, "a"))
	for _, name := range []string{"b", "c"} {
		full.makes(len(full.State().Objects)+2, fileIn(1, name))
	}
	full.steps()
	full.writesAll(2)
	if is, e := full.Sync(); is || e != api.OK {
		t.Errorf("Sync without room: %v, %d", is, e)
	}
	full.gives("Sync without room")
}

// writesAll writes over a file's first byte till blocks are cleaned.
func (b *bench) writesAll(id int) {
	b.t.Helper()
	if _, e := b.Write(id, 0, []byte("x")); e != api.ErrSpace {
		b.t.Fatalf("Write beyond the limit: %d", e)
	}
	for i := range 30 {
		b.is("Set", b.Set(id, i, 0), api.OK)
	}
	b.seen = len(b.c.Trace())
}
