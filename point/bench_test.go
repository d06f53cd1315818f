package point

import (
	"math/rand"
	"reflect"
	"slices"
	"strconv"
	"testing"

	"shale/api"
	"shale/chip"
	"shale/judge"
	"shale/leaf"
	"shale/log"
	"shale/node"
	"shale/scan"
)

func shape(blocks, pages, sectors int) api.Geometry {
	return api.Geometry{Blocks: blocks, Pages: pages, Sectors: sectors}
}

func small() api.Geometry { return shape(8, 4, 1) }

func at(block, page int) api.Place { return api.Place{Block: block, Page: page} }

func file(name string) api.Node { return api.Node{Type: api.TypeFile, Parent: 1, Name: name} }

func newChip(t *testing.T, g api.Geometry, bad []int, faults ...api.Fault) *chip.Chip {
	t.Helper()
	c, e := chip.New(g, bad, faults)
	if e != api.OK {
		t.Fatalf("chip.New: %d", e)
	}
	return c
}

func formatted(t *testing.T, g api.Geometry, faults ...api.Fault) *chip.Chip {
	t.Helper()
	c := newChip(t, g, nil, faults...)
	if e := scan.Format(c); e != api.OK {
		t.Fatalf("Format: %d", e)
	}
	return c
}

func mounted(t *testing.T, c *chip.Chip) *log.Log {
	t.Helper()
	l, _, e := Mount(c)
	if e != api.OK || l == nil {
		t.Fatalf("Mount: %d", e)
	}
	return l
}

// begun is a log behind a format: the commands 0 and 1.
func begun(t *testing.T, g api.Geometry, faults ...api.Fault) (*chip.Chip, *log.Log) {
	t.Helper()
	c := formatted(t, g, faults...)
	return c, mounted(t, c)
}

func steps(t *testing.T, l *log.Log, list ...api.Record) {
	t.Helper()
	for _, r := range list {
		if e := l.Step(r); e != api.OK {
			t.Fatalf("Step: %d", e)
		}
	}
}

func saved(t *testing.T, what string, l *log.Log, want bool) {
	t.Helper()
	if is, e := Save(l); is != want || e != api.OK {
		t.Fatalf("%s: Save: %v, %d, want %v", what, is, e, want)
	}
}

// restored fails unless Restore tells a state, or none.
func restored(t *testing.T, what string, c *chip.Chip, want bool) api.State {
	t.Helper()
	n := len(c.Trace())
	s, is, e := Restore(c)
	if is != want || e != api.OK || !is && !reflect.DeepEqual(s, api.State{}) {
		t.Fatalf("%s: Restore: %v, %v, %d, want %v", what, s, is, e, want)
	}
	if len(c.Trace()) != n {
		t.Fatalf("%s: Restore gives commands", what)
	}
	return s
}

// asScanned fails unless a state is the one that a scan of all pages tells.
func asScanned(t *testing.T, what string, c *chip.Chip, s api.State) {
	t.Helper()
	want, e := scan.Mount(c)
	if e != api.OK || !sameState(s, want) {
		t.Fatalf("%s: the checkpoint tells %v, a scan %v, %d", what, s, want, e)
	}
}

// sameState: a list may be nil or empty.
func sameState(a, b api.State) bool {
	same := slices.EqualFunc(a.Objects, b.Objects, func(x, y api.Object) bool {
		return x.Id == y.Id && x.Head == y.Head && x.Node == y.Node && x.Place == y.Place && slices.Equal(x.Chunks, y.Chunks)
	})
	return same && slices.Equal(a.Blocks, b.Blocks) && a.Floor == b.Floor && a.Next == b.Next && a.Cursor == b.Cursor && a.Last == b.Last
}

func gives(t *testing.T, what string, c *chip.Chip, from int, want ...api.Command) {
	t.Helper()
	if got := c.Trace()[from:]; !slices.Equal(got, want) {
		t.Errorf("%s gives %v, want %v", what, got, want)
	}
}

func erase(b int) api.Command      { return api.Command{Kind: api.CmdErase, Block: b} }
func program(b, p int) api.Command { return api.Command{Kind: api.CmdProgram, Block: b, Page: p} }

// looked tells a whole page; its tags without Zeros.
func looked(t *testing.T, c *chip.Chip, p api.Place) (api.Tags, []byte) {
	t.Helper()
	page, e := c.Read(p)
	if e != api.OK {
		t.Fatalf("Read: %d", e)
	}
	look, _ := leaf.Open(c.Geometry(), page)
	if look.State != api.LookWhole {
		t.Fatalf("the page %v is not whole", p)
	}
	look.Tags.Zeros = 0
	return look.Tags, look.Data[:look.Tags.Count]
}

// keepsRules fails unless all commands keep the chip's rules; what a Mark has done that failed or was cut, no judge can tell.
func keepsRules(t *testing.T, c *chip.Chip) {
	t.Helper()
	for _, x := range c.Trace() {
		if x.Kind == api.CmdMark && x.Status != api.OK {
			return
		}
	}
	if n, e := judge.Check(c.Geometry(), make([]bool, c.Geometry().Blocks), true, c.Trace()); n != -1 || e != api.OK {
		t.Fatalf("P2: the command %d of %v breaks the rules", n, c.Trace())
	}
}

func someBytes(r *rand.Rand, n int) []byte {
	b := make([]byte, n)
	r.Read(b)
	return b
}

func someOf[T any](r *rand.Rand, list ...T) T { return list[r.Intn(len(list))] }

func header(id int, n api.Node) api.Record {
	b, e := node.Pack(n)
	if e != api.OK {
		panic(e)
	}
	return api.Record{Kind: api.KindNode, Object: id, Data: b}
}

func chunk(id, k, n int) api.Record {
	return api.Record{Kind: api.KindData, Object: id, Chunk: k, Data: make([]byte, n)}
}

// someRecord picks a record that may be, by what a log's table has.
func someRecord(r *rand.Rand, l *log.Log) api.Record {
	list := l.Table().Objects()
	if len(list) == 0 || r.Intn(6) == 0 {
		id := l.Table().Fresh()
		return header(id, someOf(r, file("f"+strconv.Itoa(id)), file("g"), api.Node{Type: api.TypeDir, Parent: 1, Name: "d"}, api.Node{Type: api.TypeLink, Parent: 1, Name: "l", Target: "x"}))
	}
	o := someOf(r, list...)
	c := 256 * l.Geometry().Sectors
	if o.Node.Type == api.TypeFile && r.Intn(3) > 0 {
		return api.Record{Kind: api.KindData, Flags: someOf(r, 0, 0, 0, 0, 0, api.FlagCut), Object: o.Id, Chunk: r.Intn(5), Data: someBytes(r, someOf(r, c, 1, 1+r.Intn(c)))}
	}
	n := o.Node
	switch r.Intn(5) {
	case 0:
		n.Parent = 0
	case 1:
		if other := someOf(r, list...).Id; other != o.Id {
			n.Parent, n.Shadow = 1, other
		}
	case 2:
		if n.Type == api.TypeFile {
			n.Size = r.Intn(5 * c)
		}
	default:
		n.Mode = r.Intn(4096)
	}
	return header(o.Id, n)
}

// forgets forgets unlinked objects now and then.
func forgets(r *rand.Rand, l *log.Log) {
	for _, id := range l.Table().Loose() {
		if r.Intn(4) == 0 {
			l.Forget(id)
		}
	}
}

// holding tells all that a log's linked objects hold.
func holding(t *testing.T, l *log.Log) map[int]string {
	t.Helper()
	all := map[int]string{}
	for _, o := range l.Table().Objects() {
		if o.Node.Parent == 0 {
			continue
		}
		b, _ := node.Pack(o.Node)
		text := string(b)
		for _, k := range o.Chunks {
			data, e := l.Chunk(o.Id, k.Chunk)
			if e != api.OK {
				t.Fatalf("Chunk: %d", e)
			}
			text += strconv.Itoa(k.Chunk) + " " + string(data)
		}
		all[o.Id] = text
	}
	return all
}
