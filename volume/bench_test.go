package volume

import (
	"math/rand"
	"slices"
	"strings"
	"testing"

	"shale/api"
	"shale/chip"
	"shale/judge"
	"shale/leaf"
	"shale/node"
	"shale/scan"
)

func shape(blocks, pages, sectors int) api.Geometry {
	return api.Geometry{Blocks: blocks, Pages: pages, Sectors: sectors}
}

func small() api.Geometry { return shape(12, 4, 1) }

// roomy has blocks enough for steps that are never cleaned.
func roomy() api.Geometry { return shape(60, 8, 1) }

func fileIn(parent int, name string) api.Node {
	return api.Node{Type: api.TypeFile, Parent: parent, Name: name, Mode: 420, Stamp: 7}
}

func dirIn(parent int, name string) api.Node {
	return api.Node{Type: api.TypeDir, Parent: parent, Name: name, Mode: 493}
}

func linkIn(parent int, name string) api.Node {
	return api.Node{Type: api.TypeLink, Parent: parent, Name: name, Mode: 511, Target: "a/b"}
}

// bench is a volume on a chip, and how much of the chip's trace was looked at.
type bench struct {
	*Volume
	t    *testing.T
	c    *chip.Chip
	seen int
}

func formatted(t *testing.T, g api.Geometry, faults ...api.Fault) *chip.Chip {
	t.Helper()
	c, e := chip.New(g, nil, faults)
	if e != api.OK {
		t.Fatalf("chip.New: %d", e)
	}
	if e := scan.Format(c); e != api.OK {
		t.Fatalf("Format: %d", e)
	}
	return c
}

func mounted(t *testing.T, c *chip.Chip) *bench {
	t.Helper()
	n := len(c.Trace())
	v, e := Mount(c)
	if e != api.OK || v == nil {
		t.Fatalf("Mount: %d", e)
	}
	if len(c.Trace()) != n {
		t.Fatal("V1: Mount gives writing commands")
	}
	return &bench{Volume: v, t: t, c: c, seen: n}
}

// begun is an empty volume: the commands 0 and 1 were Format's.
func begun(t *testing.T, g api.Geometry, faults ...api.Fault) *bench {
	t.Helper()
	return mounted(t, formatted(t, g, faults...))
}

// again is the next life of a chip.
func (b *bench) again() *bench {
	b.t.Helper()
	b.c.On()
	return mounted(b.t, b.c)
}

// makes makes objects, which have the numbers from a first one on.
func (b *bench) makes(first int, list ...api.Node) {
	b.t.Helper()
	for i, n := range list {
		if id, e := b.Make(n); id != first+i || e != api.OK {
			b.t.Fatalf("Make(%v): %d, %d, want the number %d", n, id, e, first+i)
		}
	}
}

func (b *bench) writes(id, at int, data string) {
	b.t.Helper()
	if n, e := b.Write(id, at, []byte(data)); n != len(data) || e != api.OK {
		b.t.Fatalf("Write(%d, %d, %d bytes): %d, %d", id, at, len(data), n, e)
	}
}

func (b *bench) reads(id, at, n int, want string) {
	b.t.Helper()
	if got, e := b.Read(id, at, n); string(got) != want || e != api.OK {
		b.t.Fatalf("Read(%d, %d, %d): %q, %d, want %q", id, at, n, got, e, want)
	}
}

func (b *bench) is(what string, got, want api.Errno) {
	b.t.Helper()
	if got != want {
		b.t.Errorf("%s: %d, want %d", what, got, want)
	}
}

// has fails unless an object's header is this one.
func (b *bench) has(id int, want api.Node) {
	b.t.Helper()
	if n, e := b.Node(id); n != want || e != api.OK {
		b.t.Errorf("Node(%d): %v, %d, want %v", id, n, e, want)
	}
}

// steps tells the records that were written since it was asked last, without heads and copies.
func (b *bench) steps() []api.Record {
	b.t.Helper()
	var list []api.Record
	trace := b.c.Trace()
	for _, x := range trace[b.seen:] {
		if x.Kind != api.CmdProgram || x.Status != api.OK || x.Page == 0 {
			continue
		}
		page, e := b.c.Read(api.Place{Block: x.Block, Page: x.Page})
		look, f := leaf.Open(b.c.Geometry(), page)
		if e != api.OK || f != api.OK || look.State != api.LookWhole {
			b.t.Fatalf("the page of %v: %d, %d, %v", x, e, f, look.State)
		}
		if look.Tags.Flags&api.FlagCopy == 0 {
			list = append(list, api.Record{Kind: look.Tags.Kind, Flags: look.Tags.Flags, Object: look.Tags.Object, Chunk: look.Tags.Chunk, Data: look.Data[:look.Tags.Count]})
		}
	}
	b.seen = len(trace)
	return list
}

// gives fails unless just these records were written since it was asked last.
func (b *bench) gives(what string, want ...api.Record) {
	b.t.Helper()
	if got := b.steps(); !sameRecords(got, want) {
		b.t.Errorf("%s writes %v, want %v", what, got, want)
	}
}

func sameRecords(a, b []api.Record) bool {
	return slices.EqualFunc(a, b, func(x, y api.Record) bool {
		return x.Kind == y.Kind && x.Flags == y.Flags && x.Object == y.Object && x.Chunk == y.Chunk && string(x.Data) == string(y.Data)
	})
}

// header is the record of an object's header.
func header(id int, n api.Node) api.Record {
	b, e := node.Pack(n)
	if e != api.OK {
		panic(e)
	}
	return api.Record{Kind: api.KindNode, Object: id, Data: b}
}

func chunk(id, k int, data string) api.Record {
	return api.Record{Kind: api.KindData, Object: id, Chunk: k, Data: []byte(data)}
}

func lastChunk(id, k int, data string) api.Record {
	r := chunk(id, k, data)
	r.Flags = api.FlagCut
	return r
}

// lays takes headers to the log as others might, who know nothing of a volume's rules.
func (b *bench) lays(list ...api.Record) {
	b.t.Helper()
	for _, r := range list {
		if e := b.Step(r); e != api.OK {
			b.t.Fatalf("Step(%v): %d", r, e)
		}
	}
}

func zeros(n int) string { return strings.Repeat("\x00", n) }

func someBytes(r *rand.Rand, n int) []byte {
	b := make([]byte, n)
	r.Read(b)
	return b
}

func someOf[T any](r *rand.Rand, list ...T) T { return list[r.Intn(len(list))] }

// keepsRules fails unless all commands keep the chip's rules; what a Mark has done that failed or was cut, no judge can tell.
func keepsRules(t *testing.T, c *chip.Chip) {
	t.Helper()
	for _, x := range c.Trace() {
		if x.Kind == api.CmdMark && x.Status != api.OK {
			return
		}
	}
	if n, e := judge.Check(c.Geometry(), make([]bool, c.Geometry().Blocks), true, c.Trace()); n != -1 || e != api.OK {
		t.Fatalf("P2: the command %d breaks the rules", n)
	}
}

// ages flips some bits, as the rules allow it.
func ages(r *rand.Rand, c *chip.Chip, n int) {
	g := c.Geometry()
	for range n {
		c.Flip(api.Place{Block: r.Intn(g.Blocks), Page: r.Intn(g.Pages)}, r.Intn(8*(259*g.Sectors+54)))
	}
}
