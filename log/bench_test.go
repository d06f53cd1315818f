package log

import (
	"slices"
	"testing"

	"shale/api"
	"shale/chip"
	"shale/judge"
	"shale/leaf"
)

func shape(blocks, pages, sectors int) api.Geometry {
	return api.Geometry{Blocks: blocks, Pages: pages, Sectors: sectors}
}

func small() api.Geometry { return shape(12, 4, 1) }

func at(block, page int) api.Place { return api.Place{Block: block, Page: page} }

// Commands, as they stand in a trace.
func erased(b int) api.Command     { return api.Command{Kind: api.CmdErase, Block: b} }
func marked(b int) api.Command     { return api.Command{Kind: api.CmdMark, Block: b} }
func written(b, p int) api.Command { return api.Command{Kind: api.CmdProgram, Block: b, Page: p} }
func failed(x api.Command) api.Command {
	x.Status = api.ErrFailed
	return x
}

func failAt(n int) api.Fault { return api.Fault{At: n, Kind: api.FaultFail} }

// bench is a chip, and the log on it.
type bench struct {
	*Log
	t    *testing.T
	c    *chip.Chip
	seen int // how many commands of the trace were looked at
}

func newChip(t *testing.T, g api.Geometry, bad []int, faults ...api.Fault) *chip.Chip {
	t.Helper()
	c, e := chip.New(g, bad, faults)
	if e != api.OK {
		t.Fatalf("chip.New: %d", e)
	}
	return c
}

// lay writes a page as no log would have to: by its tags.
func lay(t *testing.T, c *chip.Chip, p api.Place, tags api.Tags, data []byte) {
	t.Helper()
	tags.Count = len(data)
	page, e := leaf.Build(c.Geometry(), tags, data)
	if e != api.OK {
		t.Fatalf("Build(%v): %d", tags, e)
	}
	if e := c.Program(p, page); e != api.OK {
		t.Fatalf("Program(%v): %d", p, e)
	}
}

// format makes an empty file system in a block: an erase, and a head.
func format(t *testing.T, c *chip.Chip, block int) {
	t.Helper()
	if e := c.Erase(block); e != api.OK {
		t.Fatalf("Erase: %d", e)
	}
	lay(t, c, at(block, 0), api.Tags{Kind: api.KindHead, Serial: 1, Begin: 1}, nil)
}

// mount starts a log of what a scan finds.
func mount(t *testing.T, c *chip.Chip) *bench {
	t.Helper()
	l, e := Start(c, scanned(t, c).state)
	if e != api.OK || l == nil {
		t.Fatalf("Start: %d", e)
	}
	return &bench{Log: l, t: t, c: c, seen: len(c.Trace())}
}

// begun is a log behind a format: of 12 blocks of 4 pages; the format's commands are 0 and 1.
func begun(t *testing.T, faults ...api.Fault) *bench {
	t.Helper()
	c := newChip(t, small(), nil, faults...)
	format(t, c, 0)
	return mount(t, c)
}

// gives fails unless the commands since the last look are just these.
func (b *bench) gives(what string, want ...api.Command) {
	b.t.Helper()
	trace := b.c.Trace()
	if got := trace[b.seen:]; !slices.Equal(got, want) {
		b.t.Fatalf("%s gives %v, want %v", what, got, want)
	}
	b.seen = len(trace)
}

// skip: the commands so far are not to be looked at.
func (b *bench) skip() { b.seen = len(b.c.Trace()) }

// does fails unless a step answers OK and gives just these commands.
func (b *bench) does(what string, r api.Record, want ...api.Command) {
	b.t.Helper()
	b.step(what, r, api.OK)
	b.gives(what, want...)
}

func (b *bench) step(what string, r api.Record, want api.Errno) {
	b.t.Helper()
	if e := b.Step(r); e != want {
		b.t.Fatalf("%s: %d, want %d", what, e, want)
	}
}

// header is a new header of a file, and of an object that is there one more with its size.
func (b *bench) header(id int, turn ...func(n *api.Node)) api.Record {
	b.t.Helper()
	n, e := b.Table().Node(id)
	if e != api.OK {
		n = api.Node{Type: api.TypeFile, Parent: 1, Name: "a"}
	}
	for _, f := range turn {
		f(&n)
	}
	return headerOf(b.t, id, n)
}

func unlink(n *api.Node) { n.Parent = 0 }

func sized(size int) func(n *api.Node) { return func(n *api.Node) { n.Size = size } }

// chunk is one of n bytes, each of them fill.
func chunk(id, k, n int, fill byte) api.Record {
	return api.Record{Kind: api.KindData, Object: id, Chunk: k, Data: slices.Repeat([]byte{fill}, n)}
}

func cutAt(id, k, n int) api.Record {
	r := chunk(id, k, n, 7)
	r.Flags = api.FlagCut
	return r
}

// tagged fails unless a page is whole and has these tags (but for Zeros).
func (b *bench) tagged(p api.Place, want api.Tags) {
	b.t.Helper()
	look := looked(b.t, b.c, p)
	look.Tags.Zeros = 0
	if look.State != api.LookWhole || look.Tags != want {
		b.t.Fatalf("the page %v is %d, %v, want %v", p, look.State, look.Tags, want)
	}
}

// stands fails unless a block is as it is told.
func (b *bench) stands(n int, want api.Block) {
	b.t.Helper()
	if x := b.State().Blocks[n]; x != want {
		b.t.Fatalf("the block %d is %v, want %v", n, x, want)
	}
}

// keepsRules fails unless all commands that the chip was given keep its rules (P2).
func keepsRules(t *testing.T, c *chip.Chip, bad []int) {
	t.Helper()
	marks := make([]bool, c.Geometry().Blocks)
	for _, n := range bad {
		marks[n] = true
	}
	if n, e := judge.Check(c.Geometry(), marks, true, c.Trace()); n != -1 || e != api.OK {
		t.Fatalf("P2: the command %d of %v breaks the rules", n, c.Trace())
	}
}

// told fails unless what the log tells is what a scan finds: the same objects at the same places, the same blocks, but for what only a life knows (chapter 14, K2 says how they go together).
func (b *bench) told(what string) {
	b.t.Helper()
	got, want := b.State(), scanned(b.t, b.c).state
	if !sameObjects(linkedObjects(got.Objects), want.Objects) {
		b.t.Fatalf("%s: the objects are %v, a scan finds %v", what, got.Objects, want.Objects)
	}
	if got.Floor != want.Floor || got.Last != want.Last || got.Next < want.Next {
		b.t.Fatalf("%s: Floor %d, Last %d, Next %d, a scan finds %d, %d, %d", what, got.Floor, got.Last, got.Next, want.Floor, want.Last, want.Next)
	}
	loose := looseIn(got)
	for n, x := range got.Blocks {
		if saved, found := lifeless(x, loose[n]), lifeless(want.Blocks[n], 0); saved != found {
			b.t.Fatalf("%s: the block %d is %v, a scan finds %v", what, n, x, want.Blocks[n])
		}
	}
}

// lifeless is a block as one who mounts has to see it; a block that waits is one that is used.
func lifeless(x api.Block, loose int) api.Block {
	x.Live -= loose
	switch x.State {
	case api.BlockOpen, api.BlockWaiting, api.BlockUsed:
		x.State = api.BlockUsed
		if x.Real || x.Live > 0 {
			return x
		}
		return api.Block{}
	case api.BlockBad:
		return x
	}
	return api.Block{}
}

func linkedObjects(list []api.Object) []api.Object {
	return slices.DeleteFunc(slices.Clone(list), func(o api.Object) bool { return o.Node.Parent == 0 })
}

// looseIn tells of each block how many of its pages are of objects that a mount forgets.
func looseIn(s api.State) map[int]int {
	count := map[int]int{}
	for _, o := range s.Objects {
		if o.Node.Parent != 0 {
			continue
		}
		count[o.Place.Block]++
		for _, c := range o.Chunks {
			count[c.Piece.Place.Block]++
		}
	}
	return count
}

func sameObjects(a, b []api.Object) bool {
	return slices.EqualFunc(a, b, func(x, y api.Object) bool {
		return x.Id == y.Id && x.Head == y.Head && x.Node == y.Node && x.Place == y.Place && slices.Equal(x.Chunks, y.Chunks)
	})
}
