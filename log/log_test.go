package log

import (
	"math"
	"reflect"
	"slices"
	"testing"

	"shale/api"
	"shale/chip"
	"shale/node"
)

// The examples of the chapter, with the tags of the pages (L2).
func TestExamples(t *testing.T) {
	b := begun(t, failAt(6))
	b.does("a header", b.header(2), erased(1), written(1, 0), written(1, 1))
	b.tagged(at(1, 0), api.Tags{Kind: api.KindHead, Serial: 2, Begin: 1})
	b.tagged(at(1, 1), api.Tags{Kind: api.KindNode, Serial: 3, Begin: 1, Object: 2, Count: 26})
	b.stands(0, api.Block{})
	b.does("a chunk", chunk(2, 0, 256, 1), written(1, 2))
	b.tagged(at(1, 2), api.Tags{Kind: api.KindData, Serial: 4, Begin: 1, Object: 2, Count: 256})
	b.does("a chunk that fails", chunk(2, 0, 10, 2), failed(written(1, 3)), erased(2), written(2, 0), written(2, 1))
	b.tagged(at(2, 0), api.Tags{Kind: api.KindHead, Serial: 6, Begin: 1})
	b.tagged(at(2, 1), api.Tags{Kind: api.KindData, Serial: 7, Begin: 1, Object: 2, Count: 10})
	b.step("a chunk of 0 bytes", chunk(2, 0, 0, 0), api.ErrRecord)
	b.step("a chunk of no object", chunk(9, 0, 1, 0), api.ErrRecord)
	b.gives("what is refused")
	b.stands(1, api.Block{State: api.BlockWaiting, Head: 2, Real: true, Live: 1})
	b.stands(2, api.Block{State: api.BlockOpen, Head: 6, Real: true, Live: 1})
	if u := b.Usage(); u != (api.Usage{Good: 11, Live: 2, Limit: 12}) {
		t.Errorf("Usage %v", u)
	}
	s := b.State()
	if s.Next != 8 || s.Floor != 1 || s.Cursor != 2 || s.Last != 2 {
		t.Errorf("State %v", s)
	}
	b.told("behind the examples")
	keepsRules(t, b.c, nil)
}

// Which records may be, in a table of a file 2, a directory 3 and a link 4.
func TestRecords(t *testing.T) {
	b := begun(t)
	b.step("a file", b.header(2), api.OK)
	b.step("its chunk", chunk(2, 0, 100, 1), api.OK)
	b.step("a directory", b.header(3, func(n *api.Node) { n.Type = api.TypeDir }), api.OK)
	b.step("a link", b.header(4, func(n *api.Node) { n.Type, n.Target = api.TypeLink, "x" }), api.OK)
	header := func(id int, turn ...func(n *api.Node)) api.Record { return b.header(id, turn...) }
	with := func(r api.Record, turn func(r *api.Record)) api.Record { turn(&r); return r }
	shadow := func(id int) func(n *api.Node) { return func(n *api.Node) { n.Shadow = id } }
	before, seen := b.State(), len(b.c.Trace())
	for what, r := range map[string]api.Record{
		"nothing":                    {},
		"a head":                     {Kind: api.KindHead},
		"a part":                     {Kind: api.KindSave, Object: 1, Data: make([]byte, 9), Flags: api.FlagEnd},
		"the kind 5":                 with(chunk(2, 0, 1, 1), func(r *api.Record) { r.Kind = 5 }),
		"a kind below 0":             with(chunk(2, 0, 1, 1), func(r *api.Record) { r.Kind = -1 }),
		"a header that is a copy":    with(header(2), func(r *api.Record) { r.Flags = api.FlagCopy }),
		"a header that cuts":         with(header(2), func(r *api.Record) { r.Flags = api.FlagCut }),
		"a header with a chunk":      with(header(2), func(r *api.Record) { r.Chunk = 1 }),
		"a header of the root":       header(1, func(n *api.Node) { n.Name = "r" }),
		"a header of 0":              header(0),
		"a header of -1":             header(-1),
		"a header above":             header(1 << 20),
		"a header without bytes":     {Kind: api.KindNode, Object: 2},
		"a header cut short":         with(header(2), func(r *api.Record) { r.Data = r.Data[:25] }),
		"a header with one byte":     with(header(2), func(r *api.Record) { r.Data = append(slices.Clone(r.Data), 0) }),
		"a header too great":         header(2, sized(256<<20+1)),
		"a new one with a size":      header(5, sized(1)),
		"its own shadow":             header(2, shadow(2)),
		"a new one, its own shadow":  header(5, shadow(5)),
		"a chunk of the root":        chunk(1, 0, 1, 1),
		"a chunk of a directory":     chunk(3, 0, 1, 1),
		"a chunk of a link":          chunk(4, 0, 1, 1),
		"a chunk of none":            chunk(5, 0, 1, 1),
		"a chunk of -1":              chunk(-1, 0, 1, 1),
		"a chunk of a great number":  chunk(math.MaxInt, 0, 1, 1),
		"a chunk without bytes":      chunk(2, 0, 0, 1),
		"a chunk of 257 bytes":       chunk(2, 0, 257, 1),
		"a chunk below 0":            chunk(2, -1, 1, 1),
		"a chunk above":              chunk(2, 1<<20, 1, 1),
		"a chunk that is a copy":     with(chunk(2, 0, 1, 1), func(r *api.Record) { r.Flags = api.FlagCopy }),
		"a chunk that ends":          with(chunk(2, 0, 1, 1), func(r *api.Record) { r.Flags = api.FlagEnd }),
		"a copy that cuts":           with(chunk(2, 0, 1, 1), func(r *api.Record) { r.Flags = 3 }),
		"a chunk with flags below 0": with(chunk(2, 0, 1, 1), func(r *api.Record) { r.Flags = -2 }),
	} {
		if e := b.Step(r); e != api.ErrRecord {
			t.Errorf("%s: %d, want ErrRecord", what, e)
		}
	}
	if !reflect.DeepEqual(before, b.State()) || len(b.c.Trace()) != seen {
		t.Error("R5: what is refused has changed something")
	}
	for what, r := range map[string]api.Record{
		"the greatest size":        header(2, sized(256<<20)),
		"the least size":           header(2, sized(0)),
		"a shadow":                 header(2, shadow(3)),
		"a shadow that is none":    header(2, shadow(99)),
		"unlinked":                 header(2, unlink),
		"a new one, unlinked":      header(5, unlink),
		"a file becomes a dir":     header(2, sized(0), func(n *api.Node) { n.Type = api.TypeDir }),
		"the greatest number":      header(api.MaxObject),
		"the greatest chunk":       chunk(2, api.MaxChunk, 256, 1),
		"a whole chunk":            chunk(2, 1, 256, 1),
		"a chunk of a byte":        chunk(2, 0, 1, 1),
		"a chunk that cuts":        cutAt(2, 0, 1),
		"a chunk behind that cuts": cutAt(2, 9, 256),
	} {
		l, e := Start(b.c, scanned(t, b.c).state)
		if e != api.OK {
			t.Fatal(e)
		}
		if e := l.Step(r); e != api.OK {
			t.Errorf("%s: %d", what, e)
		}
		back := headerOf(t, 2, api.Node{Type: api.TypeFile, Parent: 1, Name: "a", Size: 100})
		if e := l.Step(back); e != api.OK {
			t.Fatal(e)
		}
	}
}

// L2: a serial is used up by each page that is tried, and there is no page without one.
func TestSerials(t *testing.T) {
	start := func(next uint64) *bench {
		c := newChip(t, small(), nil)
		format(t, c, 0)
		s := scanned(t, c).state
		s.Next = next
		l, e := Start(c, s)
		if e != api.OK {
			t.Fatal(e)
		}
		return &bench{Log: l, t: t, c: c, seen: 2}
	}
	b := start(api.MaxSerial - 2)
	b.does("the last but one", b.header(2), erased(1), written(1, 0), written(1, 1))
	b.does("the last one", chunk(2, 0, 9, 5), written(1, 2))
	b.tagged(at(1, 2), api.Tags{Kind: api.KindData, Serial: api.MaxSerial, Begin: 1, Object: 2, Count: 9})
	b.step("none is left", chunk(2, 0, 9, 6), api.ErrBroken)
	b.gives("none is left")
	if data, e := b.Chunk(2, 0); e != api.OK || data[8] != 5 || !b.Halted() || b.State().Next != api.MaxSerial+1 {
		t.Errorf("L8: reading goes on: %d, halted %v", e, b.Halted())
	}
	b.step("behind it", chunk(2, 0, 9, 6), api.ErrHalted)

	b = start(api.MaxSerial)
	b.step("one for the head alone", b.header(2), api.ErrBroken)
	b.gives("one for the head alone", erased(1), written(1, 0))
	b = start(api.MaxSerial + 1)
	b.step("none", b.header(2), api.ErrBroken)
	b.gives("none", erased(1))
	b = start(api.MaxSerial + 1)
	if is, e := b.Tail([][]byte{{1}}); is || e != api.ErrBroken || !b.Halted() {
		t.Errorf("Tail: %v, %d", is, e)
	}
	b.gives("Tail", erased(1))
}

// L3: blocks that can't be opened are marked, and the next one is taken.
func TestOpenFails(t *testing.T) {
	b := begun(t, failAt(2), failAt(5))
	b.does("an erase and a head fail", b.header(2), failed(erased(1)), marked(1), erased(2), failed(written(2, 0)), marked(2), erased(3), written(3, 0), written(3, 1))
	b.tagged(at(3, 0), api.Tags{Kind: api.KindHead, Serial: 3, Begin: 1})
	b.stands(1, api.Block{State: api.BlockBad})
	b.stands(2, api.Block{State: api.BlockBad})
	if u := b.Usage(); u != (api.Usage{Good: 10, Live: 1, Limit: 9}) || b.State().Cursor != 3 || b.State().Next != 5 {
		t.Errorf("Usage %v, State %v", u, b.State())
	}
	b.told("behind two that fail")

	b = begun(t, failAt(2), failAt(3), failAt(5), failAt(6))
	b.does("marks fail, too", b.header(2), failed(erased(1)), failed(marked(1)), erased(2), failed(written(2, 0)), failed(marked(2)), erased(3), written(3, 0), written(3, 1))
	b.stands(1, api.Block{State: api.BlockBad})
	b.stands(2, api.Block{State: api.BlockBad})
	b.does("further", chunk(2, 0, 1, 1), written(3, 2))
}

// L3, L8: where no block is left, the log halts.
func TestNoBlockLeft(t *testing.T) {
	var faults []api.Fault
	var want []api.Command
	for i := range 12 {
		faults = append(faults, failAt(2+2*i))
		want = append(want, failed(erased(i)), marked(i))
	}
	b := begun(t, faults...)
	b.step("all erases fail", b.header(2), api.ErrBroken)
	b.gives("all erases fail", want[2:]...) // the block 0 is held: it is not taken
	b.stands(0, api.Block{State: api.BlockHeld})
	if !b.Halted() || b.Usage() != (api.Usage{Good: 1}) {
		t.Errorf("Halted %v, Usage %v", b.Halted(), b.Usage())
	}
	b.step("behind it", b.header(2), api.ErrHalted)
	if is, e := b.Tail(nil); is || e != api.OK {
		t.Errorf("Tail: %v, %d", is, e)
	}
	b.gives("a log that is halted")
}

// L4: what fails is written again, with another serial; L5: a block in which nothing is is marked as soon as the next head went well.
func TestAppendFails(t *testing.T) {
	b := begun(t, failAt(4), failAt(8))
	b.does("a header that fails twice", b.header(2), erased(1), written(1, 0), failed(written(1, 1)), erased(2), written(2, 0), marked(1), failed(written(2, 1)), erased(3), written(3, 0), marked(2), written(3, 1))
	b.tagged(at(3, 1), api.Tags{Kind: api.KindNode, Serial: 7, Begin: 1, Object: 2, Count: 26})
	b.stands(1, api.Block{State: api.BlockBad})
	b.stands(2, api.Block{State: api.BlockBad})
	b.stands(3, api.Block{State: api.BlockOpen, Head: 6, Real: true, Live: 1})
	if u := b.Usage(); u != (api.Usage{Good: 10, Live: 1, Limit: 9}) {
		t.Errorf("Usage %v", u)
	}
	b.told("behind two that fail")
}

// L4: Live follows, whatever block it is in; a block of which nothing is left is not free while it is real.
func TestLiveFollows(t *testing.T) {
	b := begun(t)
	b.step("a header", b.header(2), api.OK)
	for k := range 5 {
		b.step("a chunk", chunk(2, k, 256, 1), api.OK)
	}
	b.stands(1, api.Block{State: api.BlockUsed, Head: 2, Real: true, Live: 3})
	b.stands(2, api.Block{State: api.BlockOpen, Head: 6, Real: true, Live: 3})
	b.skip()
	b.does("a cut", cutAt(2, 0, 5), erased(3), written(3, 0), written(3, 1))
	b.stands(1, api.Block{State: api.BlockUsed, Head: 2, Real: true, Live: 1})
	b.stands(2, api.Block{State: api.BlockUsed, Head: 6, Real: true})
	b.stands(3, api.Block{State: api.BlockOpen, Head: 10, Real: true, Live: 1})
	b.does("a header", b.header(2), written(3, 2))
	b.stands(1, api.Block{State: api.BlockUsed, Head: 2, Real: true})
	b.stands(3, api.Block{State: api.BlockOpen, Head: 10, Real: true, Live: 2})
	b.told("behind a cut")
}

// churned is a log of a file 2 with a header and a chunk 0 of 100 bytes in the block 1, that has written its chunk 1 so often that the blocks up to some one are full.
func churned(t *testing.T, c *chip.Chip, last int) *bench {
	t.Helper()
	format(t, c, 0)
	b := mount(t, c)
	b.step("a header", b.header(2), api.OK)
	b.step("a chunk", chunk(2, 0, 100, 3), api.OK)
	for i := range 1 + 3*(last-1) {
		b.step("a chunk", chunk(2, 1, 256, byte(i)), api.OK)
	}
	b.stands(last, api.Block{State: api.BlockOpen, Head: uint64(4*last - 2), Real: true, Live: 1})
	b.skip()
	return b
}

// L6: what is current in the oldest block is copied, and the block is free behind the next real page. L7: with Keep blocks nothing is cleaned, with one less it is.
func TestClean(t *testing.T) {
	b := churned(t, newChip(t, small(), nil), 7)
	b.does("five blocks are near", chunk(2, 1, 256, 7), erased(8), written(8, 0), written(8, 1))
	b.does("open", chunk(2, 1, 256, 7), written(8, 2))
	b.does("open", chunk(2, 1, 256, 7), written(8, 3))
	b.step("another size", chunk(2, 1, 77, 9), api.OK)
	b.gives("four blocks are near", erased(9), written(9, 0), written(9, 1), written(9, 2), written(9, 3))
	b.tagged(at(9, 0), api.Tags{Kind: api.KindHead, Serial: 34, Begin: 1})
	b.tagged(at(9, 1), api.Tags{Kind: api.KindNode, Flags: api.FlagCopy, Serial: 35, Begin: 6, Object: 2, Count: 26})
	b.tagged(at(9, 2), api.Tags{Kind: api.KindData, Flags: api.FlagCopy, Serial: 36, Begin: 6, Object: 2, Count: 100})
	b.tagged(at(9, 3), api.Tags{Kind: api.KindData, Serial: 37, Begin: 6, Object: 2, Chunk: 1, Count: 77})
	n, e := node.Read(looked(t, b.c, at(9, 1)).Data[:26])
	if want := (api.Node{Type: api.TypeFile, Parent: 1, Name: "a", Size: 512}); n != want || e != api.OK {
		t.Errorf("the header's copy is %v, %d, want %v", n, e, want)
	}
	if data := looked(t, b.c, at(9, 2)).Data[:100]; !slices.Equal(data, chunk(2, 0, 100, 3).Data) {
		t.Errorf("the chunk's copy is %v", data)
	}
	if s := b.State(); s.Floor != 6 || s.Next != 38 || s.Last != 9 || s.Cursor != 9 {
		t.Errorf("State %v", s)
	}
	b.stands(1, api.Block{})
	b.stands(9, api.Block{State: api.BlockOpen, Head: 34, Real: true, Live: 3})
	b.told("behind a clean")
	keepsRules(t, b.c, nil)
}

// L6: a header is copied as the table has it: without its shadow; what is in another one's shadow is unlinked.
func TestCleanShadow(t *testing.T) {
	b := begun(t)
	b.step("a", b.header(2), api.OK)
	b.step("b in its place", b.header(3, func(n *api.Node) { n.Shadow, n.Mode = 2, 7 }), api.OK)
	for b.State().Floor == 1 {
		b.step("a chunk", chunk(3, 0, 256, 1), api.OK)
	}
	for id, want := range map[int]api.Node{
		2: {Type: api.TypeFile, Name: "a"},
		3: {Type: api.TypeFile, Parent: 1, Name: "a", Mode: 7, Size: 256},
	} {
		p, _ := b.Table().Header(id)
		look := looked(t, b.c, p)
		n, e := node.Read(look.Data[:look.Tags.Count])
		if n != want || e != api.OK || look.Tags.Flags != api.FlagCopy {
			t.Errorf("the header of %d is %v, %d, want %v", id, n, e, want)
		}
	}
	b.told("behind a clean")
	if e := b.Forget(2); e != api.OK {
		t.Errorf("Forget: %d", e)
	}
	b.told("behind Forget")
}

// withBroken is a log that goes on with the same state, on a chip of which one page reads otherwise.
func withBroken(b *bench, p api.Place) *bench {
	b.t.Helper()
	m := b.c.Image()
	size := len(m.Cells) / (m.G.Blocks * m.G.Pages)
	page := m.Cells[(p.Block*m.G.Pages+p.Page)*size:]
	for i := range size {
		page[i] = 0
	}
	c, e := chip.Load(m, nil)
	if e != api.OK {
		b.t.Fatal(e)
	}
	l, e := Start(c, scanned(b.t, b.c).state)
	if e != api.OK {
		b.t.Fatal(e)
	}
	return &bench{Log: l, t: b.t, c: c}
}

// L6, L12: a chunk that can't be read; of a header nothing is read.
func TestUnreadable(t *testing.T) {
	full := churned(t, newChip(t, small(), nil), 8)
	b := withBroken(full, at(1, 2))
	if data, e := b.Chunk(2, 0); data != nil || e != api.ErrPage {
		t.Errorf("Chunk: %d bytes, %d", len(data), e)
	}
	if _, e := b.Chunk(2, 1); e != api.OK {
		t.Errorf("Chunk: %d", e)
	}
	b.step("a chunk can't be copied", chunk(2, 1, 256, 1), api.ErrBroken)
	b.gives("a chunk can't be copied", erased(9), written(9, 0), written(9, 1))
	b.step("behind it", chunk(2, 1, 256, 1), api.ErrHalted)
	if _, e := b.Chunk(2, 1); e != api.OK || !b.Halted() {
		t.Errorf("L8: reading goes on: %d", e)
	}
	b = withBroken(full, at(1, 1))
	b.does("a header is not read", chunk(2, 1, 256, 1), erased(9), written(9, 0), written(9, 1), written(9, 2), written(9, 3))
}

// L7: what is needed is asked anew each time: an open block needs one less, till it is full.
func TestNeedAskedAnew(t *testing.T) {
	c := newChip(t, small(), nil, failAt(40))
	b := churned(t, c, 7)
	b.does("a block is opened", chunk(2, 1, 256, 1), erased(8), written(8, 0), written(8, 1))
	b.does("it fails", chunk(2, 1, 256, 2), failed(written(8, 2)), erased(9), written(9, 0), written(9, 1))
	b.stands(8, api.Block{State: api.BlockWaiting, Head: 30, Real: true})
	b.does("three are near, one is open", chunk(2, 1, 256, 3), written(9, 2), written(9, 3), erased(10), written(10, 0), written(10, 1))
	b.stands(1, api.Block{})
	b.stands(2, api.Block{})
	b.stands(8, api.Block{State: api.BlockWaiting, Head: 30, Real: true})
	if s := b.State(); s.Floor != 10 {
		t.Errorf("Floor %d", s.Floor)
	}
	b.told("behind two cleans")
}

// L5: blocks that waited and have left are marked in one go, rising; a mark that fails is passed over.
func TestMarksTogether(t *testing.T) {
	for _, fail := range []bool{false, true} {
		faults := []api.Fault{failAt(5), failAt(9)}
		if fail {
			faults = append(faults, failAt(42))
		}
		b := begun(t, faults...)
		b.step("a header", b.header(2), api.OK)
		b.skip()
		b.does("a chunk fails", chunk(2, 0, 9, 1), failed(written(1, 2)), erased(2), written(2, 0), written(2, 1))
		b.does("a header fails", b.header(2), failed(written(2, 2)), erased(3), written(3, 0), written(3, 1))
		for b.State().Cursor != 8 || b.Log.page != 4 {
			b.step("a chunk", chunk(2, 0, 9, 2), api.OK)
		}
		b.stands(1, api.Block{State: api.BlockWaiting, Head: 2, Real: true})
		b.stands(2, api.Block{State: api.BlockWaiting, Head: 5, Real: true})
		b.skip()
		first := marked(1)
		if fail {
			first = failed(first)
		}
		b.does("both leave", chunk(2, 0, 9, 3), erased(9), written(9, 0), first, marked(2), written(9, 1), written(9, 2))
		b.stands(1, api.Block{State: api.BlockBad})
		b.stands(2, api.Block{State: api.BlockBad})
		b.stands(3, api.Block{})
		if is, e := b.Tail([][]byte{{1}}); is == fail || e != api.OK {
			t.Errorf("L10: Tail behind a mark (fail: %v): %v, %d", fail, is, e)
		}
	}
}
