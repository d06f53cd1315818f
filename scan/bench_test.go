package scan

import (
	"math/rand"
	"reflect"
	"slices"
	"strconv"
	"testing"

	"shale/api"
	"shale/chip"
	"shale/judge"
	"shale/leaf"
	"shale/log"
	"shale/node"
)

func shape(blocks, pages, sectors int) api.Geometry {
	return api.Geometry{Blocks: blocks, Pages: pages, Sectors: sectors}
}

func small() api.Geometry { return shape(8, 4, 1) }

func at(block, page int) api.Place { return api.Place{Block: block, Page: page} }

func newChip(t *testing.T, g api.Geometry, bad []int, faults ...api.Fault) *chip.Chip {
	t.Helper()
	c, e := chip.New(g, bad, faults)
	if e != api.OK {
		t.Fatalf("chip.New: %d", e)
	}
	return c
}

// sheet is a page that is laid down by hand.
type sheet struct {
	at   api.Place
	tags api.Tags
	data []byte
}

func head(block int, serial, begin uint64) sheet {
	return sheet{at: at(block, 0), tags: api.Tags{Kind: api.KindHead, Serial: serial, Begin: begin}}
}

func file(name string) api.Node { return api.Node{Type: api.TypeFile, Parent: 1, Name: name} }

func header(p api.Place, serial, begin uint64, id int, n api.Node) sheet {
	b, e := node.Pack(n)
	if e != api.OK {
		panic(e)
	}
	return sheet{at: p, tags: api.Tags{Kind: api.KindNode, Serial: serial, Begin: begin, Object: id}, data: b}
}

func chunk(p api.Place, serial, begin uint64, id, k, n int) sheet {
	return sheet{at: p, tags: api.Tags{Kind: api.KindData, Serial: serial, Begin: begin, Object: id, Chunk: k}, data: make([]byte, n)}
}

// save is the only part of a checkpoint.
func save(p api.Place, serial, begin uint64) sheet {
	return sheet{at: p, tags: api.Tags{Kind: api.KindSave, Flags: api.FlagEnd, Serial: serial, Begin: begin, Object: 1}, data: make([]byte, 9)}
}

func copied(x sheet) sheet {
	x.tags.Flags = api.FlagCopy
	return x
}

func lay(t *testing.T, c *chip.Chip, list ...sheet) {
	t.Helper()
	for _, x := range list {
		x.tags.Count = len(x.data)
		page, e := leaf.Build(c.Geometry(), x.tags, x.data)
		if e != api.OK {
			t.Fatalf("Build(%v): %d", x.tags, e)
		}
		if e := c.Program(x.at, page); e != api.OK {
			t.Fatalf("Program(%v): %d", x.at, e)
		}
	}
}

// laid is a small chip that holds these pages.
func laid(t *testing.T, list ...sheet) *chip.Chip {
	t.Helper()
	c := newChip(t, small(), nil)
	lay(t, c, list...)
	return c
}

func mounted(t *testing.T, c *chip.Chip) api.State {
	t.Helper()
	s, e := Mount(c)
	if e != api.OK {
		t.Fatalf("Mount: %d", e)
	}
	return s
}

func format(t *testing.T, c *chip.Chip) {
	t.Helper()
	if e := Format(c); e != api.OK {
		t.Fatalf("Format: %d", e)
	}
}

func started(t *testing.T, c *chip.Chip) *log.Log {
	t.Helper()
	l, e := log.Start(c, mounted(t, c))
	if e != api.OK {
		t.Fatalf("Start: %d", e)
	}
	return l
}

func places(list []Leaf) []api.Place {
	var all []api.Place
	for _, x := range list {
		all = append(all, x.Place)
	}
	return all
}

// wroteNothing fails if there are other commands in the trace than so many.
func wroteNothing(t *testing.T, c *chip.Chip, n int) {
	t.Helper()
	if got := c.Trace(); len(got) != n {
		t.Fatalf("commands were given: %v", got[n:])
	}
}

// sameTree fails unless two states are one, but for Next and Cursor.
func sameTree(t *testing.T, what string, got, want api.State) {
	t.Helper()
	got.Next, got.Cursor = want.Next, want.Cursor
	if !reflect.DeepEqual(got, want) {
		t.Fatalf("%s: Mount tells %v, want %v", what, got, want)
	}
}

// keepsRules fails unless all commands keep the chip's rules; what a Mark has done that failed or was cut, no judge can tell.
func keepsRules(t *testing.T, c *chip.Chip, bad ...int) {
	t.Helper()
	marks := make([]bool, c.Geometry().Blocks)
	for _, n := range bad {
		marks[n] = true
	}
	for _, x := range c.Trace() {
		if x.Kind == api.CmdMark && x.Status != api.OK {
			return
		}
	}
	if n, e := judge.Check(c.Geometry(), marks, true, c.Trace()); n != -1 || e != api.OK {
		t.Fatalf("P2: the command %d of %v breaks the rules", n, c.Trace())
	}
}

func someBytes(r *rand.Rand, n int) []byte {
	b := make([]byte, n)
	r.Read(b)
	return b
}

func someOf[T any](r *rand.Rand, list ...T) T { return list[r.Intn(len(list))] }

// someRecord picks a record that may be, by what a log's table has.
func someRecord(r *rand.Rand, l *log.Log) api.Record {
	list := l.Table().Objects()
	if len(list) == 0 || r.Intn(6) == 0 {
		id := l.Table().Fresh()
		n := someOf(r, file("f"+strconv.Itoa(id)), file("g"), api.Node{Type: api.TypeDir, Parent: 1, Name: "d"}, api.Node{Type: api.TypeLink, Parent: 1, Name: "l", Target: "x"})
		return record(id, n)
	}
	o := someOf(r, list...)
	c := 256 * l.Geometry().Sectors
	if o.Node.Type == api.TypeFile && r.Intn(3) > 0 {
		return api.Record{Kind: api.KindData, Flags: someOf(r, 0, 0, 0, 0, 0, api.FlagCut), Object: o.Id, Chunk: r.Intn(5), Data: someBytes(r, someOf(r, c, 1, 1+r.Intn(c)))}
	}
	n := o.Node
	switch r.Intn(5) {
	case 0:
		n.Parent = 0
	case 1:
		if other := someOf(r, list...).Id; other != o.Id {
			n.Parent, n.Shadow = 1, other
		}
	case 2:
		if n.Type == api.TypeFile {
			n.Size = r.Intn(5 * c)
		}
	default:
		n.Mode = r.Intn(4096)
	}
	return record(o.Id, n)
}

func record(id int, n api.Node) api.Record {
	b, e := node.Pack(n)
	if e != api.OK {
		panic(e)
	}
	return api.Record{Kind: api.KindNode, Object: id, Data: b}
}

// forgets forgets unlinked objects now and then.
func forgets(r *rand.Rand, l *log.Log) {
	for _, id := range l.Table().Loose() {
		if r.Intn(4) == 0 {
			l.Forget(id)
		}
	}
}

// written is a chip on which a log has made some steps, with a checkpoint's pages now and then.
func written(t *testing.T, r *rand.Rand, g api.Geometry, steps int, faults ...api.Fault) *chip.Chip {
	t.Helper()
	c := newChip(t, g, nil, faults...)
	format(t, c)
	l := started(t, c)
	for range steps {
		e := l.Step(someRecord(r, l))
		if !slices.Contains([]api.Errno{api.OK, api.ErrSpace}, e) {
			c.On()
			l = started(t, c)
		}
		forgets(r, l)
		if r.Intn(20) == 0 {
			l.Tail([][]byte{{1}, {2, 3}})
		}
	}
	c.On()
	return c
}
